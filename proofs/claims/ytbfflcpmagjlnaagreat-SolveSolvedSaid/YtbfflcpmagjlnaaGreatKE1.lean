/- Plain mathematics of numbers as lists of digits, the lowest first: value, the canonical digits of a number, trimming, comparing. Condition: as each says. -/
import Derived.WalkKit
import Derived.ProofKit
import Derived.Lib.Hide
import Derived.Below
import Derived.OwnWalk
import Derived.Deep.Draws
import Derived.Deep.OwnRows
import Derived.Test.YtbfflcpmagjlnaaGreatRows
import Derived.Deep.QuietTactic
import Derived.BigQuiet
import Derived.Outline
import Derived.Lib.Bytealg
import Derived.Lib.Strings
import Derived.Laws.RangeAny
import Derived.Laws.IdiomStrings
import Derived.WalkMore
import Derived.IntWalk
import Derived.WalkSmall
import Derived.Deep.RegionLaw
import Derived.Deep.RegionWith
import Derived.Deep.DrawnRows
import Derived.Laws.CopyOwn
import Derived.StillTailTactics
import Derived.Lib.SliceRun
import Derived.OpenShut
import Derived.Deep.AppendLies
import Derived.Deep.Matrix
open Go.Proofs.Tryz
open Go.Lib renaming hid -> hQ9
set_option linter.unusedVariables false
set_option linter.unusedSimpArgs false
set_option maxRecDepth 100000
set_option maxHeartbeats 6400000
open List renaming set_cons_succ -> zA1, getElem?_eq_getElem -> zA3, getElem?_eq_some_iff -> zA4, mem_of_getElem? -> zA5, take_of_length_le -> zA7, length_append -> zA8, replicate -> zB, getElem?_map -> zB1, length_set -> zB2
open Nat renaming le_refl -> zB3, le_trans -> zB4
open Go.World renaming block_lt_of_cell? -> bQ0
open List renaming getElem?_set_self -> bQ3, take_add_one -> bQ9, getElem?_set_ne -> bW1, getElem?_drop -> bW9, take_append_drop -> bX, take_length -> bX1, length_drop -> bX2, length_cons -> bX3, take_zero -> bX6
open Nat renaming mul_assoc -> bX8, pow_le_pow_right -> bX9, mul_le_mul_left -> bY, mul_comm -> bY0, pow_succ -> bY1, lt_of_lt_of_le -> bY2, eq_zero_or_pos -> bY3, zero_add -> bY5, mul_le_mul -> bY6
namespace Go.Proofs.YtbfflcpmagjlnaaGreat
namespace num
def val (B:Nat):List Nat->Nat
 | []=>0
 | d :: l=>d+B*val B l
def Lt (B:Nat) (l:List Nat):Prop:=∀ d∈l,d<B
def digs (B x:Nat):List Nat:=if h:x=0\/B<2 then [] else x % B :: digs B (x / B)
termination_by x
decreasing_by exact Nat.div_lt_self (by omega) (by omega)
def trim:List Nat->List Nat
 | []=>[]
 | d :: l=>if trim l=[]/\d=0 then [] else d :: trim l
theorem Lt.nil (B:Nat):Lt B []:=fun d h=>by simp at h
theorem Lt.cons {B d:Nat} {l:List Nat} (h:d<B) (hl:Lt B l):Lt B (d :: l):=by
 intro x hx;rcases List.mem_cons.1 hx with rfl|hx
 ·exact h
 ·exact hl x hx
theorem Lt.head {B d:Nat} {l:List Nat} (h:Lt B (d :: l)):d<B:=h d (by simp)
theorem Lt.tail {B d:Nat} {l:List Nat} (h:Lt B (d :: l)):Lt B l:=fun x hx=>h x (by simp [hx])
theorem Lt.append {B:Nat} {l m:List Nat} (h:Lt B l) (k:Lt B m):Lt B (l ++ m):=by
 intro x hx;rcases List.mem_append.1 hx with hx | hx
 ·exact h x hx
 ·exact k x hx
theorem Lt.snoc {B d:Nat} {l:List Nat} (h:Lt B l) (hd:d<B):Lt B (l ++ [d]):=h.append (Lt.cons hd (Lt.nil B))
theorem Lt.take {B:Nat} {l:List Nat} (h:Lt B l) (n:Nat):Lt B (l.take n):=fun x hx=>h x (List.mem_of_mem_take hx)
theorem Lt.drop {B:Nat} {l:List Nat} (h:Lt B l) (n:Nat):Lt B (l.drop n):=fun x hx=>h x (List.mem_of_mem_drop hx)
theorem Lt.at {B:Nat} {l:List Nat} (h:Lt B l) {i d:Nat} (hd:l[i]?=some d):d<B:=h d (zA5 hd)
theorem Lt.set {B d:Nat} {l:List Nat} (h:Lt B l) (hd:d<B) (i:Nat):Lt B (l.set i d):=by
 intro x hx;rcases List.mem_or_eq_of_mem_set hx with hx | rfl
 ·exact h x hx
 ·exact hd
theorem Lt.rep {B:Nat} (hB:0<B) (n:Nat):Lt B (zB n 0):=by
 intro x hx;rw [List.eq_of_mem_replicate hx];exact hB
theorem Lt.more {B C:Nat} {l:List Nat} (h:Lt B l) (hC:B<=C):Lt C l:=fun x hx=>bY2 (h x hx) hC
theorem zY2 (B:Nat):val B []=0:=rfl
theorem zN4 (B d:Nat) (l:List Nat):val B (d :: l)=d+B*val B l:=rfl
theorem zL6 (B:Nat) (l m:List Nat):val B (l ++ m)=val B l+B^l.length*val B m:=by
 induction l with
 | nil=>simp [val]
 | cons d l ih=>rw [List.cons_append,zN4,ih,zN4,bX3,bY1,Nat.mul_add,bY0 (B^l.length) B,bX8];omega
theorem zT9 (B:Nat) (l:List Nat) (d:Nat):val B (l ++ [d])=val B l+B^l.length*d:=by rw [zL6];simp [val]
theorem qD9 (B n:Nat):val B (zB n 0)=0:=by
 induction n with
 | zero=>rfl
 | succ n ih=>rw [List.replicate_succ,zN4,ih];omega
theorem zM8 {B:Nat} {l:List Nat} (h:Lt B l):val B l<B^l.length:=by
  induction l with
  | nil=>simp [val]
  | cons d l ih =>
    have h1:=ih h.tail;have h2:=h.head;rw [zN4,bX3,bY1,bY0 (B^l.length) B];have h3:B*(val B l+1)<=B*B^l.length:=bY _ h1;rw [Nat.mul_add] at h3;omega
theorem zJ (B:Nat):digs B 0=[]:=by rw [digs];simp
theorem zU {B x:Nat} (hB:2<=B) (hx:0<x):digs B x=x % B :: digs B (x / B):=by
 rw [digs];rw [dif_neg (by omega)]
theorem zF8 {B:Nat} (hB:2<=B) (x:Nat):Lt B (digs B x):=by
  induction x using Nat.strongRecOn with
  | ind x ih =>
    by_cases hx:x=0
    · subst hx;rw [zJ];exact Lt.nil B
    · rw [zU hB (by omega)];exact Lt.cons (Nat.mod_lt _ (by omega)) (ih _ (Nat.div_lt_self (by omega) (by omega)))
theorem zF {B:Nat} (hB:2<=B) (x:Nat):val B (digs B x)=x:=by
  induction x using Nat.strongRecOn with
  | ind x ih =>
    by_cases hx:x=0
    · subst hx;rw [zJ];rfl
    · rw [zU hB (by omega),zN4,ih _ (Nat.div_lt_self (by omega) (by omega))];exact Nat.mod_add_div x B
theorem qZ5 {B:Nat} (hB:2<=B) (x:Nat):digs B x=[] ↔ x=0:=by
 constructor
 ·intro h
  have:=zF hB x
  rw [h] at this;exact this.symm
 ·rintro rfl;exact zJ B
theorem qA8 {B:Nat} (hB:2<=B) {x:Nat} : (digs B x).length=0 ↔ x=0:=by rw [List.length_eq_zero_iff];exact qZ5 hB x
theorem zN {B:Nat} (hB:2<=B) {l:List Nat} (h:Lt B l):trim l=digs B (val B l):=by
  induction l with
  | nil=>rw [zY2,zJ];rfl
  | cons d l ih =>
    have hd:=h.head;have e:=ih h.tail;rw [trim,e,zN4];by_cases hv:val B l=0
    · rw [hv,zJ];by_cases hd0:d=0
      · subst hd0;simp [zJ]
      · rw [if_neg (by simp [hd0]),zU hB (by omega)];have e1:(d+B*0) % B=d:=by rw [Nat.mul_zero,Nat.add_zero];exact Nat.mod_eq_of_lt hd
        have e2:(d+B*0) / B=0:=by rw [Nat.mul_zero,Nat.add_zero];exact Nat.div_eq_of_lt hd
        rw [e1,e2,zJ]
    · have hp:0<B*val B l:=Nat.mul_pos (by omega) (by omega);rw [if_neg (by rintro ⟨h1,_⟩;exact hv ((qZ5 hB _).1 h1)),zU hB (x:=d+B*val B l) (by omega)];have e1:(d+B*val B l) % B=d:=by rw [Nat.add_mul_mod_self_left];exact Nat.mod_eq_of_lt hd
      have e2:(d+B*val B l) / B=val B l:=by rw [Nat.add_mul_div_left _ _ (by omega),Nat.div_eq_of_lt hd];omega
      rw [e1,e2]
theorem qZ6 (l:List Nat):trim (l ++ [0])=trim l:=by
 induction l with
 | nil=>simp [trim]
 | cons d l ih=>rw [List.cons_append,trim,ih,trim]
theorem qZ7 (l:List Nat) {d:Nat} (h:d≠0):trim (l ++ [d])=l ++ [d]:=by
 induction l with
 | nil=>simp [trim,h]
 | cons c l ih=>rw [List.cons_append,trim,ih,if_neg (by simp)]
theorem qE (l:List Nat):(trim l).length<=l.length:=by
 induction l with
 | nil=>simp [trim]
 | cons d l ih=>rw [trim];split<;>simp;exact ih
theorem qA9 {l:List Nat} {n d:Nat} (hn:l[n]?=some d) (hd:d≠0):trim (l.take (n+1))=l.take (n+1):=by
 rw [bQ9,hn];exact qZ7 _ hd
theorem qE0 {l:List Nat} {n:Nat} (hn:l[n]?=some 0):trim (l.take (n+1))=trim (l.take n):=by
 rw [bQ9,hn];exact qZ6 _
theorem qJ4 (l:List Nat):trim l=l.take (trim l).length:=by
  induction l with
  | nil=>simp [trim]
  | cons d l ih =>
    rw [trim]
    split
    · simp
    · rw [bX3,List.take_succ_cons,<- ih]
theorem zG7 {B:Nat} (hB:2<=B) {x k:Nat} (h:x<B^k):(digs B x).length<=k:=by
  induction k generalizing x with
  | zero => rw [Nat.pow_zero] at h; obtain rfl : x = 0 := by omega
            rw [zJ];simp
  | succ k ih =>
    by_cases hx:x=0
    · subst hx;rw [zJ];simp
    · rw [zU hB (by omega),bX3];have:(digs B (x / B)).length<=k:=ih (by rw [bY1] at h;exact Nat.div_lt_of_lt_mul (by rw [bY0];exact h));omega
theorem zK6 {B:Nat} (hB:2<=B) (x:Nat):x<B^(digs B x).length:=by
 have:=zM8 (zF8 hB x)
 rwa [zF hB] at this
theorem zG1 {B:Nat} (hB:2<=B) {x y:Nat} (h:x<=y):(digs B x).length<=(digs B y).length :=
 zG7 hB (Nat.lt_of_le_of_lt h (zK6 hB y))
theorem qJ5 {B:Nat} (hB:2<=B) (x:Nat) {n d:Nat} (hn:(digs B x).length=n+1) (hd:(digs B x)[n]?=some d):d≠0:=by
 rintro rfl
 have e:digs B x=(digs B x).take n ++ [0]:=by
  have h1:(digs B x).take (n+1)=digs B x:=zA7 (by omega);rw [bQ9,hd] at h1;exact h1.symm
 have h2:trim (digs B x)=digs B x:=by rw [zN hB (zF8 hB x),zF hB]
 rw [e,qZ6] at h2;have h3:=qE ((digs B x).take n);rw [h2] at h3;simp at h3;omega
theorem yU6 {B:Nat} (hB:2<=B) (x:Nat) {n:Nat} (hn:(digs B x).length=n+1):B^n<=x:=by
 rcases Nat.lt_or_ge x (B^n) with h | h
 ·have:=zG7 hB h;omega
 ·exact h
def ord (x y:Nat):Int:=if x<y then -1 else if y<x then 1 else 0
theorem zS4 {x y:Nat} (h:x<y):ord x y = -1:=by simp [ord,h]
theorem zU0 {x y:Nat} (h:y<x):ord x y=1:=by rw [ord,if_neg (by omega),if_pos h]
theorem qE1 (x:Nat):ord x x=0:=by simp [ord]
theorem ord_bd (x y:Nat) : -1<=ord x y/\ord x y<=1:=by unfold ord;split<;>(try split)<;>omega
theorem qJ6 {x y:Nat} : ord x y=0 ↔ x=y:=by unfold ord;(repeat' split)<;>omega
theorem qQ6 {x y:Nat} : ord x y<0 ↔ x<y:=by unfold ord;(repeat' split)<;>omega
theorem qZ8 {x y:Nat} : ord x y<=0 ↔ x<=y:=by unfold ord;(repeat' split)<;>omega
theorem qJ7 {B:Nat} (hB:2<=B) {x y:Nat} (h:(digs B x).length<(digs B y).length):x<y:=by
 rcases Nat.lt_or_ge x y with h1 | h1
 ·exact h1
 ·have:=zG1 hB h1;omega
theorem qJ8 {B:Nat} {l m:List Nat} (hl:Lt B l) (hm:Lt B m) (hlen:l.length=m.length) {i d e:Nat} (hd:l[i]?=some d) (he:m[i]?=some e) (hs:l.drop (i+1)=m.drop (i+1)) (h:d<e):val B l<val B m:=by
 have il:i<l.length:=(zA4.1 hd).1
 have el:l=l.take i ++ (d :: l.drop (i+1)):=by
  rw [(zA4.1 hd).2.symm,List.getElem_cons_drop,bX]
 have em:m=m.take i ++ (e :: m.drop (i+1)):=by
  rw [(zA4.1 he).2.symm,List.getElem_cons_drop,bX]
 have l1:(l.take i).length=i:=by simp;omega
 have l2:(m.take i).length=i:=by simp;omega
 rw [el,em,zL6,zL6,zN4,zN4,l1,l2,hs];have h1:=zM8 (hl.take i);rw [l1] at h1;have h2:B^i*(d+B*val B (m.drop (i+1))+1)<=B^i*(e+B*val B (m.drop (i+1))):=bY _ (by omega);rw [Nat.mul_add,Nat.mul_one] at h2;omega
theorem qZ9 {l m:List Nat} {i d:Nat} (hd:l[i]?=some d) (he:m[i]?=some d) (hs:l.drop (i+1)=m.drop (i+1)):l.drop i=m.drop i:=by
 obtain ⟨i1,e1⟩:=zA4.1 hd;obtain ⟨i2,e2⟩:=zA4.1 he;rw [<- List.getElem_cons_drop i1,<- List.getElem_cons_drop i2,e1,e2,hs]
theorem zY3 {l:List Nat} {i d:Nat} (hd:l[i]?=some d):l.take (i+1)=l.take i ++ [d]:=by rw [bQ9,hd];rfl
theorem qQ7 {l:List Nat} {i d:Nat} (hd:l[i]?=some d):l.drop i=d :: l.drop (i+1):=by
 obtain ⟨i1,e1⟩:=zA4.1 hd;rw [<- List.getElem_cons_drop i1,e1]
theorem zJ7 {B:Nat} {l:List Nat} {i d:Nat} (hd:l[i]?=some d):val B (l.take (i+1))=val B (l.take i)+B^i*d:=by
 have il:i<l.length:=(zA4.1 hd).1;have e:(l.take i).length=i:=by simp;omega
 rw [zY3 hd,zT9,e]
theorem qE2 {B:Nat} {l:List Nat} {i d:Nat} (hd:l[i]?=some d):val B (l.drop i)=d+B*val B (l.drop (i+1)):=by rw [qQ7 hd,zN4]
theorem qQ8 {B:Nat} {l:List Nat} {i d:Nat} (hd:l[i]?=some d) (e:Nat):val B (l.set i e)+B^i*d=val B l+B^i*e:=by
  induction l generalizing i with
  | nil=>simp at hd
  | cons c l ih =>
    cases i with
    | zero=>simp at hd;subst hd;simp [val];omega
    | succ i =>
      have:=ih (i:=i) (by simpa using hd)
      rw [zA1,zN4,zN4,bY1,bY0 (B^i) B,bX8,bX8,Nat.add_assoc,<- Nat.mul_add,this,Nat.mul_add];omega
def tz (x:Nat):Nat:=if h:x=0\/x % 2=1 then 0 else tz (x / 2)+1
termination_by x
decreasing_by exact Nat.div_lt_self (by omega) (by omega)
theorem yA {x:Nat} (h:x % 2=1):tz x=0:=by rw [tz,dif_pos (Or.inr h)]
theorem tz_zero:tz 0=0:=by rw [tz,dif_pos (Or.inl rfl)]
theorem qE3 {x:Nat} (h0:x≠0) (h:x % 2=0):tz x=tz (x / 2)+1:=by rw [tz,dif_neg (by omega)]
theorem tz_of {x n:Nat} (h:x % 2^n=0) (h1:x / 2^n % 2=1):tz x=n:=by
  induction n generalizing x with
  | zero=>rw [Nat.pow_zero,Nat.div_one] at h1;exact yA h1
  | succ n ih =>
    have h2:x % 2=0:=by
      have:2∣x:=Nat.dvd_trans ⟨2^n,by rw [bY1,bY0]⟩ (Nat.dvd_of_mod_eq_zero h);omega
    have h0:x≠0:=by rintro rfl;simp at h1
    have e:x / 2^(n+1)=x / 2 / 2^n:=by rw [Nat.div_div_eq_div_mul,bY1,bY0]
    rw [qE3 h0 h2,ih ?_ (by rw [<- e];exact h1)];obtain ⟨q,hq⟩:=Nat.dvd_of_mod_eq_zero h;rw [hq,bY1,bY0 (2^n) 2,bX8,Nat.mul_div_cancel_left _ (by omega)];exact Nat.mul_mod_right _ _
theorem yA0 {x k:Nat} (h:x<4294967296^k):(digs 10000 x).length<=3*k:=by
 refine zG7 (by omega) (bY2 h ?_);rw [Nat.pow_mul];exact Nat.pow_le_pow_left (by decide) k
theorem yU7 {l:List Nat} (h:Lt 4294967296 l):(digs 10000 (val 4294967296 l)).length<=3*l.length:=yA0 (zM8 h)
theorem yU8 {B d x:Nat} (hB:2<=B) (hd:B<=d) (hx:0<x):(digs B (x / d)).length<(digs B x).length:=by
 have h1:x / d<=x / B:=Nat.div_le_div_left hd (by omega);have h2:=zG1 hB h1;rw [zU hB hx,bX3];omega
theorem yU9 {l:List Nat} {i d:Nat} (hi:i<l.length):(l.set i d).drop i=d :: l.drop (i+1):=by
 rw [qQ7 (d:=d) (by simp [hi]),List.drop_set_of_lt (by omega)]
end num
namespace mem
open Go.RowKit
def nv (k:IntKind) (l:List Nat):List Value:=l.map fun d:Nat=>Value.int k (d:Int)
theorem zS5 (k:IntKind) (l:List Nat):(nv k l).length=l.length:=by simp [nv]
theorem nv_at (k:IntKind) {l:List Nat} {i d:Nat} (h:l[i]?=some d):(nv k l)[i]?=some (.int k (d:Int)):=by simp [nv,h]
theorem yA1 (k:IntKind) (l m:List Nat):nv k (l ++ m)=nv k l ++ nv k m:=by simp [nv]
theorem nv_set (k:IntKind) (l:List Nat) (i d:Nat):(nv k l).set i (.int k (d:Int))=nv k (l.set i d):=by simp [nv,List.map_set]
theorem qQ9 (k:IntKind) (l:List Nat):∀ u∈nv k l,u.oneCell'=true:=by
 intro u hu;obtain ⟨_,_,rfl⟩:=List.mem_map.1 hu
 rfl
def Rd (w:World) (A:Option Addr) (k:IntKind) (l:List Nat):Prop:=∀ (i d:Nat),l[i]?=some d -> ∃ ad,A=some ad/\w.cell? (ad.add i)=some (.int k (d:Int))
def IsS (w:World) (k:IntKind) (v:Value) (l:List Nat):Prop:=∃ A c,v=.slice A l.length c/\l.length<=c/\c<=maxLen/\Rd w A k l
theorem block_add (a:Addr) (n:Nat):(a.add n).block=a.block:=by unfold Addr.add;split<;>rfl
theorem Rd.keep {w w':World} {A:Option Addr} {k:IntKind} {l:List Nat} (h:Rd w A k l) (hk:∀ p:Addr,p.block<w.heap.size->w'.cell? p=w.cell? p):Rd w' A k l:=by
 intro i d hd;obtain ⟨ad,ha,hc⟩:=h i d hd;exact ⟨ad,ha,(hk _ (bQ0 w _ hc)).trans hc⟩
theorem Rd.bQ {w w':World} {A:Option Addr} {k:IntKind} {l:List Nat} (h:Rd w A k l) (hb:Below w.heap.size w w'):Rd w' A k l:=h.keep fun p hp=>hb.cell hp
theorem IsS.bQ {w w':World} {k:IntKind} {v:Value} {l:List Nat} (h:IsS w k v l) (hb:Below w.heap.size w w'):IsS w' k v l:=by
 obtain ⟨A,c,e,h1,h2,h3⟩:=h;exact ⟨A,c,e,h1,h2,h3.bQ hb⟩
theorem Rd.at_ {w:World} {A:Option Addr} {k:IntKind} {l:List Nat} (h:Rd w A k l) {i:Nat} (hi:i<l.length):∃ ad d,A=some ad/\l[i]?=some d/\w.cell? (ad.add i)=some (.int k (d:Int)):=by
 obtain ⟨ad,ha,hc⟩:=h i _ (zA3 hi);exact ⟨ad,_,ha,zA3 hi,hc⟩
theorem Rd.take {w:World} {A:Option Addr} {k:IntKind} {l:List Nat} (h:Rd w A k l) (n:Nat):Rd w A k (l.take n):=by
 intro i d hd;rw [List.getElem?_take] at hd
 split at hd
 ·exact h i d hd
 ·cases hd
theorem Rd.nil {w:World} {A:Option Addr} {k:IntKind} : Rd w A k []:=by intro i d hd;simp at hd
theorem Rd.isTake {w:World} {A:Option Addr} {k:IntKind} {l:List Nat} {n c:Nat} (h:Rd w A k l) (hn:n<=l.length) (hc:l.length<=c) (hm:c<=maxLen):IsS w k (.slice A n c) (l.take n):=by
 have e:(l.take n).length=n:=by simp;omega
 exact ⟨A,c,by rw [e],by rw [e];omega,hm,h.take n⟩
theorem qJ9 (w:World) (k:IntKind):IsS w k (.slice none 0 0) []:=⟨none,0,rfl,by simp,by simp,Rd.nil⟩
def Own (w:World) (base:Nat) (e:TypeId) (k:IntKind) (v:Value) (l:List Nat):Prop:=w.ownsRow base e 1 v l.length (nv k l)
theorem Own.isS {w:World} {base:Nat} {e:TypeId} {k:IntKind} {v:Value} {l:List Nat} (h:Own w base e k v l):IsS w k v l:=by
 have hc:=h.2;rcases hc with ⟨rfl,h0⟩|⟨g,cap,cur,rfl,_,hg,hn,hm,_,_⟩
 ·obtain rfl:l=[]:=List.length_eq_zero_iff.1 h0;exact qJ9 w k
 ·refine ⟨_,_,rfl,hn,hm,?_⟩;intro i d hd;exact ⟨_,rfl,World.ownsRow.cells h (g:=g) rfl i _ (nv_at k hd)⟩
theorem Own.alloc {w:World} {base:Nat} {e:TypeId} {k:IntKind} {v:Value} {l:List Nat} (h:Own w base e k v l) (o:Obj):Own (w.alloc o) base e k v l:=World.ownsRow.alloc h o
theorem Own.drewN {w:World} {base:Nat} {e:TypeId} {k:IntKind} {v:Value} {l:List Nat} (h:Own w base e k v l) (n:Nat):Own (w.drewN n) base e k v l:=h
theorem Own.bQ {w w':World} {base:Nat} {e:TypeId} {k:IntKind} {v:Value} {l:List Nat} (h:Own w base e k v l) (hb:Below w.heap.size w w'):Own w' base e k v l :=
 World.ownsRow.kept (row:=none) h ⟨hb.os,hb.tape,hb.output,hb.size,fun i hi _=>hb.block i hi⟩ (by cases hv:v.ownBlock<;>simp)
theorem Own.base_le {w:World} {base:Nat} {e:TypeId} {k:IntKind} {v:Value} {l:List Nat} (h:Own w base e k v l):∀ g,v.ownBlock=some g->base<=g:=fun g hg=>(World.ownsRow.lt h g hg).1
theorem qK (w:World) (base:Nat) (e:TypeId) (k:IntKind) (l:List Nat) (hb:base<=w.heap.size) (hm:l.length<=maxLen) :
  Own (w.alloc (.cells (nv k l).toArray e)) base e k (.slice (some ⟨w.heap.size,0,none⟩) l.length l.length) l:=by
 have h:=World.ownsRow_lit (e:=e) (size:=1) w (nv k l).toArray l.length hb hm (by simp [nv]);simpa [Own] using h
theorem zP (w:World) (base:Nat) (e:TypeId) (k:IntKind) (hb:base<=w.heap.size):Own (w.alloc (.cells #[] e)) base e k (.slice (some ⟨w.heap.size,0,none⟩) 0 0) []:=qK w base e k [] hb (by simp)
theorem zC9 {B:Nat} {w:World} (h:B<=w.heap.size) (o:Obj):Below B w (w.alloc o):=(Below.refl B w).alloc h o
theorem Own.snoc {w:World} {base:Nat} {e:TypeId} {k:IntKind} {v:Value} {l:List Nat} {d:Nat} (h:w.ownsRow base e 1 v (l.length+1) (nv k l ++ [.int k (d:Int)])):Own w base e k v (l ++ [d]):=by
 unfold Own;rw [yA1,zA8];exact h
theorem Own.more {w:World} {base:Nat} {e:TypeId} {k:IntKind} {v:Value} {l m:List Nat} (h:w.ownsRow base e 1 v (l.length+m.length) (nv k l ++ nv k m)):Own w base e k v (l ++ m):=by
 unfold Own;rw [yA1,zA8];exact h
theorem Own.place {w:World} {base:Nat} {e:TypeId} {k:IntKind} {v:Value} {l:List Nat} (h:Own w base e k v l) (hl:0<l.length) :
  ∃ g cap,v=.slice (some ⟨g,0,none⟩) l.length cap/\l.length<=cap/\cap<=maxLen/\base<=g/\g<w.heap.size:=by
 rcases h.2 with ⟨rfl,h0⟩|⟨g,cap,cur,rfl,hg,hh,hn,hm,_,_⟩
 ·omega
 ·exact ⟨g,cap,rfl,hn,hm,hg,(Array.getElem?_eq_some_iff.1 hh).1⟩
theorem Own.cellAt {w:World} {base:Nat} {e:TypeId} {k:IntKind} {g n cap:Nat} {l:List Nat} (h:Own w base e k (.slice (some ⟨g,0,none⟩) n cap) l) {i d:Nat} (hd:l[i]?=some d):w.cell? ⟨g,i,none⟩=some (.int k (d:Int)):=by
 have:=World.ownsRow.cells h (g:=g) rfl i _ (nv_at k hd)
 have ha:(⟨g,0,none⟩:Addr).add i=⟨g,i,none⟩:=by unfold Addr.add;split<;>simp_all
 rwa [ha] at this
theorem Own.len_eq {w:World} {base:Nat} {e:TypeId} {k:IntKind} {A:Option Addr} {n cap:Nat} {l:List Nat} (h:Own w base e k (.slice A n cap) l):n=l.length:=by
 rcases h.2 with ⟨h1,h0⟩|⟨g,cap',cur,h1,_⟩
 ·injection h1 with _ h1 _;omega
 ·injection h1 with _ h1 _
theorem Own.frozenAt {w:World} {base:Nat} {e:TypeId} {k:IntKind} {g n cap:Nat} {l:List Nat} (h:Own w base e k (.slice (some ⟨g,0,none⟩) n cap) l) (i:Nat):w.frozen? ⟨g,i,none⟩=false:=by
 obtain rfl:=h.len_eq;exact World.ownsRow.frozenAt h i
theorem Own.stored {w:World} {base:Nat} {e:TypeId} {k:IntKind} {g n cap:Nat} {l:List Nat} (h:Own w base e k (.slice (some ⟨g,0,none⟩) n cap) l) (i d:Nat):Own (w.setCell ⟨g,i,none⟩ (.int k (d:Int))) base e k (.slice (some ⟨g,0,none⟩) n cap) (l.set i d):=by
 obtain rfl:=h.len_eq
 have:=(World.ownsRow.stored h i (.int k (d:Int))).1
 unfold Own;rw [<- nv_set,zB2];exact this
theorem Own.stored' {w:World} {base:Nat} {e:TypeId} {k:IntKind} {g n cap:Nat} {l:List Nat} (h:Own w base e k (.slice (some ⟨g,0,none⟩) n cap) l) (i d:Nat) {x:Int} (hx:x=(d:Int)):Own (w.setCell ⟨g,i,none⟩ (.int k x)) base e k (.slice (some ⟨g,0,none⟩) n cap) (l.set i d):=by
 subst hx;exact h.stored i d
theorem yV {x:Int} {n d:Nat} (h:x=(n:Int)):x / (d:Int)=((n / d:Nat):Int):=by subst h;exact (Int.natCast_ediv n d).symm
theorem yV0 {x:Int} {n d:Nat} (h:x=(n:Int)):x % (d:Int)=((n % d:Nat):Int):=by subst h;exact (Int.natCast_emod n d).symm
def lenOf:Value->Nat | .slice _ n _=>n | _=>0
theorem zV5 {k:IntKind} {a b:Int} (h:a=b):Value.int k a=.int k b:=by rw [h]
theorem yA2 (w:World) (base:Nat) (e:TypeId) (k:IntKind) (n:Nat) (hb:base<=w.heap.size) (hm:n<=maxLen) :
  Own (w.alloc (.cells (madeCells #[.int k 0] n) e)) base e k (.slice (some ⟨w.heap.size,0,none⟩) n n) (zB n 0):=by
 have e1:(madeCells #[.int k 0] n)=(nv k (zB n 0)).toArray:=by
  apply Array.toList_inj.1;rw [toList_madeCells_one];simp [nv]
 rw [e1]
 have:=qK w base e k (zB n 0) hb (by simpa using hm)
 simpa using this
theorem yV1 {w:World} {base:Nat} {e:TypeId} {k:IntKind} {g n:Nat} (h:w.ownsRow base e 1 (.slice (some ⟨g,0,none⟩) n n) n (madeCells #[.int k 0] (n*1)).toList):Own w base e k (.slice (some ⟨g,0,none⟩) n n) (zB n 0):=by
 rw [Nat.mul_one,toList_madeCells_one] at h;unfold Own;simpa [nv] using h
theorem zP0 {B:Nat} {a w:World} (h:Below B a w) (n:Nat):Below B a (w.drewN n):=⟨h.os,h.tape,h.output,h.size,h.block⟩
def zE5 (B:Nat) (v:Value):Prop:=∀ ad n c,v=.slice (some ad) n c->B<=ad.block
theorem zE5.mono {B B':Nat} {v:Value} (h:zE5 B v) (hb:B'<=B):zE5 B' v:=fun ad n c e=>zB4 hb (h ad n c e)
theorem Own.fresh {w:World} {base:Nat} {e:TypeId} {k:IntKind} {v:Value} {l:List Nat} (h:Own w base e k v l):zE5 base v:=by
 rintro ad n c rfl;exact h.base_le ad.block rfl
theorem Own.under {w:World} {base:Nat} {e:TypeId} {k:IntKind} {v:Value} {l:List Nat} (h:Own w base e k v l):∀ g,v.ownBlock=some g->g<w.heap.size:=fun g hg=>(World.ownsRow.lt h g hg).2
theorem qK0 {a b c:World} {r:Option Nat} (h:a.grownBy b r) (k:b.grownBy c r):a.grownBy c r :=
 ⟨k.os.trans h.os,k.tape.trans h.tape,k.output.trans h.output,zB4 h.size k.size,fun i hi hn=>(k.block i (bY2 hi h.size) hn).trans (h.block i hi hn)⟩
theorem IsS.apart {w w':World} {k:IntKind} {v u:Value} {l:List Nat} {B:Nat} (h:IsS w k v l) (hf:zE5 B v) (hu:∀ g,u.ownBlock=some g->g<B) (hg:w.grownBy w' u.ownBlock):IsS w' k v l:=by
 obtain ⟨A,c,rfl,h1,h2,h3⟩:=h;refine ⟨A,c,rfl,h1,h2,?_⟩;intro i d hd;obtain ⟨ad,rfl,hc⟩:=h3 i d hd;refine ⟨ad,rfl,hg.cell hc ?_⟩;rw [block_add];intro e;have h4:=hu _ e.symm;have h5:=hf ad _ _ rfl;omega
theorem IsS.setCell {w:World} {k:IntKind} {v:Value} {l:List Nat} {B:Nat} (h:IsS w k v l) (hf:zE5 B v) {p:Addr} (hp:p.block<B) (x:Value):IsS (w.setCell p x) k v l:=by
 obtain ⟨A,c,rfl,h1,h2,h3⟩:=h;refine ⟨A,c,rfl,h1,h2,?_⟩;intro i d hd;obtain ⟨ad,rfl,hc⟩:=h3 i d hd;refine ⟨ad,rfl,?_⟩;rw [World.cell?_setCell_other]
 ·exact hc
 ·intro e;have h5:=hf ad _ _ rfl
  have:=congrArg Addr.block e
  rw [block_add] at this;omega
def zD7 (k:IntKind) (l:List Nat) (w:World) (e:Ending) (w':World):Prop:=∃ v,e=.returned v/\IsS w' k v l/\zE5 w.heap.size v/\Below w.heap.size w w'
def RetOwn (t:TypeId) (k:IntKind) (l:List Nat) (w:World) (e:Ending) (w':World):Prop:=∃ v,e=.returned v/\Own w' w.heap.size t k v l/\Below w.heap.size w w'
def zO3 (k:IntKind) (l:List Nat) (n:Int) (w:World) (e:Ending) (w':World):Prop:=∃ v,e=.returned (.tuple #[v,.int .i64 n])/\IsS w' k v l/\zE5 w.heap.size v/\Below w.heap.size w w'
def zE1 (v:Value) (w:World) (e:Ending) (w':World):Prop:=e=.returned v/\Below w.heap.size w w'
def RetQ (v:Value) (w:World) (e:Ending) (w':World):Prop:=e=.returned v /\ ∃ n,w'=w.drewN n
structure SliceT (P:Program) (t e:TypeId) (k:IntKind):Prop where
 und:P.underlying t=some (.slice e)
 info:∃ i,P.info? e=some i/\i.zero=some (.int k 0)/\i.size=1/\i.bytes=8
section
variable {P:Program}
theorem yV2 {w:World} {base:Nat} {t ty e:TypeId} {k:IntKind} (hT:SliceT P t e k) {v:Value} {l news:List Nat} (hown:Own w base e k v l) {A:Option Addr} {m c:Nat} (hm:m=news.length) (hr:Rd w A k news)
  (hlen:l.length+m<=10000000000000) (hbase:base<=w.heap.size) :
  ∃ v' w',(Builtin.append_ #[t,t] ty #[v,.slice A m c]).run P w=.ok v' w'/\Own w' base e k v' (l ++ news)/\w.grownBy w' v.ownBlock:=by
 obtain ⟨i,hi,hz,hs,hb⟩:=hT.info;subst hm;rcases A with _ | ad
 ·have hn:news=[]:=by
   rcases news with _ | ⟨d,n⟩
   ·rfl
   ·obtain ⟨ad,h,_⟩:=hr 0 d (by simp);cases h
  subst hn;refine ⟨v,w,?_,by simpa using hown,World.grownBy.refl _ _⟩;rcases hown.2 with ⟨rfl,h0⟩|⟨g,cap,cur,rfl,_,_,hnc,_⟩
  ·simp [Builtin.append_,run_underlying hT.und,sizeOf,typeInfo,hi,Builtin.lenOf,Builtin.firstCells]
  ·simp [Builtin.append_,run_underlying hT.und,sizeOf,typeInfo,hi,Builtin.lenOf,Builtin.firstCells,hnc,storeCells]
 ·have hcells:∀ j u,(nv k news)[j]?=some u->w.cell? (ad.add j)=some u:=by
   intro j u hu;simp only [nv,zB1,Option.map_eq_some_iff] at hu;obtain ⟨d,hd,rfl⟩:=hu;obtain ⟨ad',h,hc⟩:=hr j d hd;injection h with h;subst h;exact hc
  obtain ⟨v',w',h1,h2,h3,_⟩:=run_append_own (P:=P) w base t ty e i (.int k 0) 1 8 hT.und hi hz hs hb rfl (by decide) v l.length (nv k l) hown ad news.length c (nv k news) (by simp [nv]) hcells (qQ9 k news) (by unfold maxLen;omega) (by omega) hbase;exact ⟨v',w',h1,Own.more h2,h3⟩
theorem yA3 {w:World} {o:Oper} {a:Act} {K:Act->World->Prop} {Q:Exit->Act->World->Prop} (s x:Operand) {t:TypeId}
  (ho:o.op=.call { callee:=.builtin .append,args:=#[s,x],argTypes:=#[t,t] })
  {base:Nat} {e:TypeId} {k:IntKind} (hT:SliceT P t e k) {v:Value} {l news:List Nat} (hs:a.eval s=v) (hown:Own w base e k v l) {A:Option Addr} {m c:Nat} (hx:a.eval x=.slice A m c) (hm:m=news.length) (hr:Rd w A k news)
  (hlen:l.length+m<=10000000000000) (hbase:base<=w.heap.size)
  (h:∀ v' w',Own w' base e k v' (l ++ news)->w.grownBy w' v.ownBlock->K (a.put o.dst v') w'):o.wp P a w K Q:=by
 obtain ⟨v',w',hrun,h2,h3⟩:=yV2 (P:=P) (ty:=o.type) hT hown (c:=c) hm hr hlen hbase;unfold Oper.wp execOp;simp only [ho,resolve,invoke,builtin,Sem.run_bind,Sem.run_pure,Result.andThen_ok,List.map_toArray,List.map_cons,List.map_nil,hs,hx,hrun];exact h v' w' h2 h3
theorem qB {w:World} {ops:Array Oper} {rest:List Oper} {o:Oper} {a:Act} {Q:Exit->Act->World->Prop} (hgd:o.guard=none) (s x:Operand) {t:TypeId}
  (ho:o.op=.call { callee:=.builtin .append,args:=#[s,x],argTypes:=#[t,t] })
  {base:Nat} {e:TypeId} {k:IntKind} (hT:SliceT P t e k) {v:Value} {l news:List Nat} (hs:a.eval s=v) (hown:Own w base e k v l) {A:Option Addr} {m c:Nat} (hx:a.eval x=.slice A m c) (hm:m=news.length) (hr:Rd w A k news)
  (hlen:l.length+m<=10000000000000) (hbase:base<=w.heap.size)
  (h:∀ v' w',Own w' base e k v' (l ++ news)->Below base w w'->w.grownBy w' v.ownBlock->wpList P ops Q rest (a.put o.dst v') w'):wpList P ops Q (o :: rest) a w :=
 wpList_plain hgd fun _ hK=>yA3 s x ho hT hs hown hx hm hr hlen hbase fun v' w' h2 h3=>hK _ _ (h v' w' h2 ((Below.refl base w).grown h3 hbase (Own.base_le hown)) h3)
theorem rd_new (w:World) (e:TypeId) (k:IntKind) {x:Int} {d:Nat} (hd:x=(d:Int)):Rd (w.alloc (.cells #[.int k x] e)) (some ⟨w.heap.size,0,none⟩) k [d]:=by
 intro i d' hd';rcases i with _ | i
 ·simp at hd';subst hd';subst hd;exact ⟨_,rfl,by simp [Addr.add,World.cell?_alloc_at]⟩
 ·simp at hd'
theorem yA4 (w:World) (base:Nat) (e:TypeId) (k:IntKind) {x:Int} {d:Nat} (hd:x=(d:Int)) (hb:base<=w.heap.size):Own (w.alloc (.cells #[.int k x] e)) base e k (.slice (some ⟨w.heap.size,0,none⟩) 1 1) [d]:=by
 subst hd;exact qK w base e k [d] hb (by unfold maxLen;simp)
theorem yV3 (w:World) (base:Nat) (e:TypeId) (k:IntKind) {x y:Int} {d f:Nat} (hd:x=(d:Int)) (hf:y=(f:Int)) (hb:base<=w.heap.size):Own (w.alloc (.cells #[.int k x,.int k y] e)) base e k (.slice (some ⟨w.heap.size,0,none⟩) 2 2) [d,f]:=by
 subst hd;subst hf;exact qK w base e k [d,f] hb (by unfold maxLen;simp)
theorem qK1 {B g n c:Nat} (h:B<=g):zE5 B (.slice (some ⟨g,0,none⟩) n c):=by
 intro ad n' c' e;injection e with e _ _;injection e with e;subst e;exact h
theorem zS6 {w:World} {ops:Array Oper} {rest:List Oper} {o:Oper} {a:Act} {Q:Exit->Act->World->Prop} (hgd:o.guard=none) (s x:Operand) {t:TypeId}
  (ho:o.op=.call { callee:=.builtin .append,args:=#[s,x],argTypes:=#[t,t] })
  {base:Nat} {e:TypeId} {k:IntKind} (hT:SliceT P t e k) {v:Value} {l:List Nat} (d:Nat) {y:Int} (hs:a.eval s=v) (hown:Own w base e k v l) (hx:a.eval x=.slice (some ⟨w.heap.size,0,none⟩) 1 1) (hd:y=(d:Int))
  (hlen:l.length<=1000000000000) (hbase:base<=w.heap.size)
  (h:∀ v' w',Own w' base e k v' (l ++ [d])->Below base w w'->w.grownBy w' v.ownBlock->wpList P ops Q rest (a.put o.dst v') w'):wpList P ops Q (o :: rest) a (w.alloc (.cells #[.int k y] e)) :=
 qB hgd s x ho hT hs (hown.alloc _) hx rfl (rd_new w e k hd) (by omega) (by simp;omega) fun v' w' h1 h2 h3=>h v' w' h1 (((Below.refl base w).alloc hbase _).trans h2) (qK0 (World.grownBy_alloc w _ _) h3)
theorem zR4 {w:World} {ops:Array Oper} {rest:List Oper} {o:Oper} {a:Act} {Q:Exit->Act->World->Prop} (hgd:o.guard=none) (lo co:Operand) {t:TypeId} (ho:o.op=Op.makeSlice t lo co)
  {base:Nat} {e:TypeId} {k:IntKind} (hT:SliceT P t e k) {kl kc:IntKind} {L C:Int} (n:Nat) (hl:a.eval lo=.int kl L) (hc:a.eval co=.int kc C) (hL:L=(n:Int)) (hC:C=(n:Int)) (hn:n<=10000000000000) (hbase:base<=w.heap.size)
  (h:∀ w',Own w' base e k (.slice (some ⟨w.heap.size,0,none⟩) n n) (zB n 0)->Below w.heap.size w w'->w.heap.size<w'.heap.size->wpList P ops Q rest (a.put o.dst (.slice (some ⟨w.heap.size,0,none⟩) n n)) w'):wpList P ops Q (o :: rest) a w:=by
 obtain ⟨i,hi,hz,hs,hb⟩:=hT.info;refine wpList_make_full w hgd lo co t ho base e i (.int k 0) 1 hT.und hi hz hs kl kc L C n hl hc hL hC (by rw [hb];omega) (by unfold maxLen;omega) hbase fun w' h1 h2 => ?_;have hw:=yV1 h1;refine h w' hw ((Below.refl _ w).grown h2 (zB3 _) (fun g hg=>by cases hg)) ?_;rcases h1.2 with ⟨h3,_⟩|⟨g,cap,cur,h3,_,h4,_⟩
 ·cases h3
 ·injection h3 with h3 _ _;injection h3 with h3;injection h3 with h3 _ _;subst h3;exact (Array.getElem?_eq_some_iff.1 h4).1
end
def zU1 (k:IntKind) (l m:List Nat) (w:World) (e:Ending) (w':World):Prop:=∃ v u,e=.returned (.tuple #[v,u])/\IsS w' k v l/\IsS w' k u m/\zE5 w.heap.size v/\zE5 w.heap.size u/\Below w.heap.size w w'
end mem
namespace nat
open Go.RowKit num mem
theorem zQ0:SliceT prog 50 3 .i64:=⟨underlying50,info_parts (P:=prog) (e:=3) (z:=.int .i64 0) (size:=1) (bytes:=8) (by kernel_rfl)⟩
theorem zK1:SliceT prog 40 75 .u64:=⟨underlying40,info_parts (P:=prog) (e:=75) (z:=.int .u64 0) (size:=1) (bytes:=8) (by kernel_rfl)⟩
def RetTr (l:List Nat) (v:Value) (w:World) (e:Ending) (w':World):Prop:=∃ v',e=.returned v'/\IsS w .u64 v' l/\(∀ B,zE5 B v->zE5 B v')/\w=w'
theorem beq0 {d:Nat} (h:((d:Int) == 0)=true):d=0:=by have:=beq_iff_eq.1 h;omega
theorem nbeq0 {d:Nat} (h:((d:Int) == 0)=false):d≠0:=by have:=beq_eq_false_iff_ne.1 h;omega
theorem yV4 (v:Value) (l:List Nat) (w:World) (h:IsS w .u64 v l) :
    Calls prog 67 #[v] w (RetTr (trim l) v w):=by
  obtain ⟨A,c,rfl,hc,hm,hr⟩:=h;have hm':=hm;unfold maxLen at hm'
  go_enter func67,ntmps67
  go_wp2
  go_loop [3] (fun vn => ∃ n:Nat,n<=l.length/\Hid (trim (l.take n)=trim l)/\vn=.int .i64 (n:Int)) (fun vn=>(intOf vn).toNat)
  case atStart=>exact ⟨l.length,zB3 _,by rw [bX1];rfl,rfl⟩
  case round =>
    obtain ⟨n,hn,ht,rfl⟩:=hrel;by_cases hp:0<n
    · obtain ⟨n,rfl⟩:∃ m,n=m+1:=⟨n-1,by omega⟩;obtain ⟨ad,d,rfl,hd,hcell⟩:=hr.at_ (i:=n) (by omega);have HD:=hQ9 hd;clear hd;go_wp2
      · have hz : d = 0 := by have h : ((d : Int) == 0) = true := by assumption
                              exact beq0 h
        subst hz
        go_round
        case rel=>exact ⟨n,by omega,by have h1:=ht.out;rw [qE0 HD.out] at h1;exact h1,by go_num⟩
        case measure=>simp [intOf]
      · have hz : d ≠ 0 := by have h : ((d : Int) == 0) = false := by assumption
                              exact nbeq0 h
        have e:trim l=l.take (n+1):=by have h1:=ht.out;rw [qA9 HD.out hz] at h1;exact h1.symm
        have el:(trim l).length=n+1:=by rw [e];simp;omega
        have hs:=hr.isTake hn hc hm;rw [<- e,<- el] at hs;have HEL:=hQ9 el;clear e el;go_ret;rw [HEL.out] at hs;exact ⟨_,rfl,hs,fun B hf ad' n' c' e=>by injection e with e1 _ _;injection e1 with e1;subst e1;exact hf _ _ _ rfl,rfl⟩
    · obtain rfl:n=0:=by omega
      have e:trim l=[]:=by have h1:=ht.out;rw [bX6] at h1;exact h1.symm
      have hs:=hr.isTake (Nat.zero_le _) hc hm;rw [bX6] at hs;have HE:=hQ9 e;clear e;go_wp2;go_ret;rw [HE.out];exact ⟨_,rfl,hs,fun B hf ad' n' c' e=>by injection e with e1 _ _;subst e1;exact hf _ _ _ rfl,rfl⟩
theorem yV5 (v:Value) (l:List Nat) (w:World) (h:IsS w .i64 v l) (hl:l.length<=1000000000000) :
    Calls prog 108 #[v] w (zD7 .i64 (trim l) w):=by
  obtain ⟨A,c,rfl,hc,hm,hr⟩:=h;have hm':=hm;unfold maxLen at hm'
  go_enter func108,ntmps108
  go_wp2
  go_loop [3] (fun vn => ∃ n:Nat,n<=l.length/\Hid (trim (l.take n)=trim l)/\vn=.int .i64 (n:Int)) (fun vn=>(intOf vn).toNat)
  case atStart=>exact ⟨l.length,zB3 _,by rw [bX1];rfl,rfl⟩
  case round =>
    obtain ⟨n,hn,ht,rfl⟩:=hrel;by_cases hp:0<n
    · obtain ⟨n,rfl⟩:∃ m,n=m+1:=⟨n-1,by omega⟩;obtain ⟨ad,d,rfl,hd,hcell⟩:=hr.at_ (i:=n) (by omega);have HD:=hQ9 hd;clear hd;have htk:n+1=(l.take (n+1)).length:=by simp;omega
      have HT:=hQ9 htk;clear htk
      go_wp2_with (at_builtin;refine qB rfl (.tmp 18) (.tmp 21) rfl zQ0 rfl (zP w w.heap.size _ .i64 (zB3 _)) rfl (news:=l.take (n+1)) HT.out ((hr.take (n+1)).bQ (zC9 (zB3 _) _)) (by simp;omega) (by simp) ?_;intro v' w1 hown1 hb1 hg1)
      · have hz : d = 0 := by have h : ((d : Int) == 0) = true := by assumption
                              exact beq0 h
        subst hz
        go_round
        case rel=>exact ⟨n,by omega,by have h1:=ht.out;rw [qE0 HD.out] at h1;exact h1,by go_num⟩
        case measure=>simp [intOf]
      · have hz : d ≠ 0 := by have h : ((d : Int) == 0) = false := by assumption
                              exact nbeq0 h
        have e:trim l=l.take (n+1):=by have h1:=ht.out;rw [qA9 HD.out hz] at h1;exact h1.symm
        have HE:=hQ9 e;clear e;go_ret;exact ⟨_,rfl,by have:=hown1.isS;rwa [List.nil_append,<- HE.out] at this,hown1.fresh,(zC9 (zB3 _) _).trans hb1⟩
    · obtain rfl:n=0:=by omega
      have e:trim l=[]:=by have h1:=ht.out;rw [bX6] at h1;exact h1.symm
      have HE:=hQ9 e;clear e
      go_wp2_with (at_builtin;refine qB rfl (.tmp 18) (.tmp 21) rfl zQ0 rfl (zP w w.heap.size _ .i64 (zB3 _)) rfl (news:=[]) rfl Rd.nil (by simp) (by simp) ?_;intro v' w1 hown1 hb1 hg1)
      go_ret;exact ⟨_,rfl,by have:=hown1.isS;rwa [List.nil_append,<- HE.out] at this,hown1.fresh,(zC9 (zB3 _) _).trans hb1⟩
end nat
namespace txt
open num
def figs:List UInt8:=[48,49,50,51,52,53,54,55,56,57,97,98,99,100,101,102,103,104,105,106,107,108,109,110,111,112,113,114,115,116,117,118,119,120,121,122]
def ch (d:Nat):UInt8:=figs.getD d 0
def dv (c:UInt8):Nat:=if 48<=c.toNat/\c.toNat<=57 then c.toNat-48 else if 97<=c.toNat/\c.toNat<=122 then c.toNat-87 else 99
def okS (b:Nat) (s:List UInt8):Prop:=s≠[] /\ ∀ c∈s,dv c<b
def pairs (p:Nat):List Nat->List Nat
 | x :: y :: r=>(x+y*p) :: pairs p r
 | [x]=>[x]
 | []=>[]
def halves (p:Nat) (ys:List Nat):List Nat:=ys.flatMap fun y=>[y % p,y / p]
end txt
namespace str
open Go.RowKit num mem txt
end str
namespace nat
open Go.RowKit num mem
theorem qB0 (v:Value) (l:List Nat) (w:World) (h:IsS w .i64 v l) (hlt:Lt 10000 l) (hl:l.length<=1000000000000) :
  Calls prog 108 #[v] w (zD7 .i64 (digs 10000 (val 10000 l)) w):=by
 rw [<- zN (by omega) hlt];exact yV5 v l w h hl
def MA (l:List Nat) (m c0 k c:Nat) (o:List Nat):Prop:=Lt 10000 o/\o.length=k/\val 10000 o+10000^k*c=val 10000 (l.take k)*m+c0
theorem MA.start (l:List Nat) (m c0:Nat):MA l m c0 0 c0 []:=by
 unfold MA;exact ⟨Lt.nil _,rfl,by simp [val]⟩
theorem MA.step {l o:List Nat} {m c0 k c d:Nat} (h:MA l m c0 k c o) (hd:l[k]?=some d):MA l m c0 (k+1) ((c+d*m) / 10000) (o ++ [(c+d*m) % 10000]):=by
 unfold MA at h |-;obtain ⟨h1,h2,h3⟩:=h;refine ⟨h1.snoc (by omega),by simp [h2],?_⟩;rw [zT9,h2,zJ7 hd,Nat.add_mul,bY1,bX8 (10000^k) d m,bX8 (10000^k) 10000]
 have e:10000^k*((c+d*m) % 10000)+10000^k*(10000*((c+d*m) / 10000))=10000^k*c+10000^k*(d*m):=by
  rw [<- Nat.mul_add,<- Nat.mul_add];congr 1;omega
 omega
def MB (T c:Nat) (o:List Nat):Prop:=Lt 10000 o/\val 10000 o+10000^o.length*c=T
theorem MA.done {l o:List Nat} {m c0 c:Nat} (h:MA l m c0 l.length c o):MB (val 10000 l*m+c0) c o:=by
 unfold MA at h;unfold MB;obtain ⟨h1,h2,h3⟩:=h;rw [bX1] at h3;exact ⟨h1,by rw [h2];exact h3⟩
theorem MB.step {T c:Nat} {o:List Nat} (h:MB T c o):MB T (c / 10000) (o ++ [c % 10000]):=by
 unfold MB at h |-;obtain ⟨h1,h3⟩:=h;refine ⟨h1.snoc (by omega),?_⟩;rw [zT9,zA8,List.length_singleton,bY1,bX8,Nat.add_assoc,<- Nat.mul_add,Nat.mod_add_div];exact h3
theorem MB.done {T:Nat} {o:List Nat} (h:MB T 0 o):Lt 10000 o/\val 10000 o=T:=by
 unfold MB at h;obtain ⟨h1,h3⟩:=h;exact ⟨h1,by simpa using h3⟩
theorem yV6 (v:Value) (l:List Nat) (mI cI:Int) (m c:Nat) (w:World) (hm:mI=(m:Int)) (hc:cI=(c:Int)) (h:IsS w .i64 v l) (hlt:Lt 10000 l) (hl:l.length<=1000000) (m1:m<=4294967296) (c1:c<=4294967296) :
  Calls prog 75 #[v,.int .i64 mI,.int .i64 cI] w (zD7 .i64 (digs 10000 (val 10000 l*m+c)) w):=by
 subst hm;subst hc;obtain ⟨A,cap,rfl,hcap,hcm,hr⟩:=h
 go_enter func75,ntmps75
 go_wp2
 go_loopw [2,7,8] (fun vc vo vi wr => ∃ (k c':Nat) (o:List Nat),k<=l.length/\c'<=4294967296/\MA l m c k c' o/\Own wr w.heap.size 3 .i64 vo o/\o.length<=k/\Below w.heap.size w wr/\vc=.int .i64 (c':Int)/\vi=.int .i64 (k:Int)) (fun _ _ vi _=>l.length-(intOf vi).toNat)
 case atStart=>exact ⟨0,c,[],by omega,c1,MA.start l m c,zP w _ _ .i64 (zB3 _),by simp,zC9 (zB3 _) _,rfl,rfl⟩
 case round =>
  obtain ⟨k,c',o,hk,hc',hM,hown,hok,hb,rfl,rfl⟩:=hrel;by_cases hlt2:k<l.length
  ·obtain ⟨ad,d,rfl,hd,hcell⟩:=(hr.bQ hb).at_ hlt2;have hd1:=hlt.at hd;have hp:d*m<=9999*4294967296:=bY6 (by omega) m1;have HM:=hQ9 (hM.step hd);clear hd hM;have hsz:=hb.size
   go_wp2_with (at_builtin;refine zS6 rfl (.tmp 24) (.tmp 27) rfl zQ0 ((c'+d*m) % 10000) rfl hown rfl (by omega) (by omega) (by omega) ?_;intro v' w1 hown1 hb1 hg1)
   go_roundw;case rel=>exact ⟨k+1,_,_,by omega,by omega,HM.out,hown1,by simp;omega,hb.trans hb1,zV5 (by omega),by go_num⟩
   case measure=>simp [intOf];omega
  ·obtain rfl:k=l.length:=by omega
   have HM:=hM.done;clear hM;go_wp2
   go_loopw [2,7] (fun vc vo wr => ∃ (c':Nat) (o:List Nat),c'<=4294967296/\MB (val 10000 l*m+c) c' o/\Own wr w.heap.size 3 .i64 vo o/\o.length+c'<=l.length+4294967296/\Below w.heap.size w wr/\vc=.int .i64 (c':Int)) (fun vc _ _=>(intOf vc).toNat)
   case atStart=>exact ⟨c',o,hc',HM,hown,by omega,hb,rfl⟩
   case round =>
    clear hown hb hok hlt2 HM hc';obtain ⟨c2,o2,hc',hM,hown,hok,hb,rfl⟩:=hrel;have hsz:=hb.size;by_cases hp:0<c2
    ·have HM:=hQ9 hM.step;clear hM
     go_wp2_with (at_builtin;refine zS6 rfl (.tmp 33) (.tmp 36) rfl zQ0 (c2 % 10000) rfl hown rfl (by omega) (by omega) (by omega) ?_;intro v' w1 hown1 hb1 hg1)
     go_roundw;case rel=>exact ⟨_,_,by omega,HM.out,hown1,by simp;omega,hb.trans hb1,zV5 (by omega)⟩
     case measure=>simp [intOf];omega
    ·obtain rfl:c2=0:=by omega
     obtain ⟨h1,h2⟩:=hM.done;have HV:=hQ9 h2;clear h2 hM;go_wp2_with fail
     refine (qB0 _ _ _ hown.isS h1 (by omega)).mono ?_;rintro e w' ⟨v',rfl,hv,hf,hb2⟩;go_wp2;go_ret;exact ⟨_,rfl,by rw [HV.out] at hv;exact hv,hf.mono hsz,hb.trans (hb2.mono hsz)⟩
def DS (l:List Nat) (d k r:Nat) (o:List Nat):Prop:=Lt 10000 o/\o.length=l.length/\val 10000 (o.drop k)*d+r=val 10000 (l.drop k)/\r<d
theorem DS.start (l:List Nat) {d:Nat} (hd:1<=d):DS l d l.length 0 (zB l.length 0):=by
 unfold DS;exact ⟨Lt.rep (by omega) _,by simp,by simp [val],by omega⟩
theorem DS.digit {l o:List Nat} {d j r a:Nat} (h:DS l d (j+1) r o) (ha:a<10000):(10000*r+a) / d<10000/\(10000*r+a) % d<d:=by
 unfold DS at h;exact ⟨Nat.div_lt_of_lt_mul (by omega),Nat.mod_lt _ (by omega)⟩
theorem DS.step {l o:List Nat} {d j r a:Nat} (h:DS l d (j+1) r o) (hl:l[j]?=some a) (ha:a<10000):DS l d j ((10000*r+a) % d) (o.set j ((10000*r+a) / d)):=by
 have hq:=h.digit ha;unfold DS at h |-;obtain ⟨h1,h2,h3,h4⟩:=h;have hj:j<l.length:=(zA4.1 hl).1;refine ⟨h1.set hq.1 j,by simpa using h2,?_,hq.2⟩;rw [yU9 (by omega),zN4,qE2 hl,<- h3,Nat.add_mul,bX8];have e:=Nat.mod_add_div (10000*r+a) d;rw [bY0 d] at e;omega
theorem DS.done {l o:List Nat} {d r:Nat} (h:DS l d 0 r o):Lt 10000 o/\o.length=l.length/\val 10000 o=val 10000 l / d/\r=val 10000 l % d:=by
 unfold DS at h;obtain ⟨h1,h2,h3,h4⟩:=h;simp only [List.drop_zero] at h3;refine ⟨h1,h2,?_,?_⟩
 ·rw [<- h3,bY0,Nat.mul_add_div (by omega),Nat.div_eq_of_lt h4,Nat.add_zero]
 ·rw [<- h3,bY0,Nat.mul_add_mod,Nat.mod_eq_of_lt h4]
theorem yV7 (v:Value) (l:List Nat) (dI:Int) (d:Nat) (w:World) (hd:dI=(d:Int)) (h:IsS w .i64 v l) (hlt:Lt 10000 l) (hl:l.length<=1000000) (d0:1<=d) (d1:d<=4294967296) :
  Calls prog 143 #[v,.int .i64 dI] w (zO3 .i64 (digs 10000 (val 10000 l / d)) ((val 10000 l % d:Nat):Int) w):=by
 subst hd;obtain ⟨A,cap,rfl,hcap,hcm,hr⟩:=h
 go_enter func143,ntmps143
 go_wp2_with (at_make;refine zR4 rfl (.tmp 10) (.tmp 10) rfl zQ0 l.length rfl rfl rfl rfl (by omega) (zB3 _) ?_;intro w1 hown1 hb1 hz1)
 go_loopw [7,8] (fun vr vi wr => ∃ (k r:Nat) (o:List Nat),k<=l.length/\r<=4294967295/\DS l d k r o/\Own wr w.heap.size 3 .i64 (.slice (some ⟨w.heap.size,0,none⟩) l.length l.length) o/\Below w.heap.size w wr/\vr=.int .i64 (r:Int)/\vi=.int .i64 ((k:Int)-1)) (fun _ vi _=>(intOf vi+1).toNat)
 case atStart=>exact ⟨l.length,0,_,by omega,by omega,DS.start l d0,hown1,hb1,rfl,rfl⟩
 case round =>
  clear hown1 hb1;obtain ⟨k,r,o,hk,hr1,hD,hown,hb,rfl,rfl⟩:=hrel;by_cases hp:0<k
  ·obtain ⟨j,rfl⟩:∃ j,k=j+1:=⟨k-1,by omega⟩;obtain ⟨ad,a,rfl,ha,hcell⟩:=(hr.bQ hb).at_ (i:=j) (by omega);have ha1:=hlt.at ha;have hS:=hD.step ha ha1;obtain ⟨q1,q2⟩:=hD.digit ha1;have HS:=hQ9 hS;have hlen:j<o.length:=by have:=hD.2.1;omega
   obtain ⟨a',ha'⟩:∃ a',o[j]?=some a':=⟨_,zA3 hlen⟩;have hc':=hown.cellAt ha';have hf':=hown.frozenAt j;clear ha ha' hS hD;have eq:=yV (x:=10000*(r:Int)+(a:Int)) (n:=10000*r+a) (d:=d) (by omega);have er:=yV0 (x:=10000*(r:Int)+(a:Int)) (n:=10000*r+a) (d:=d) (by omega);have EQ:=hQ9 eq;have ER:=hQ9 er;clear eq er;go_wp2;go_roundw;case rel=>exact ⟨j,(10000*r+a) % d,o.set j ((10000*r+a) / d),by omega,by omega,HS.out,hown.stored' j _ EQ.out,hb.setCell (zB3 _) _,zV5 ER.out,by go_num⟩
   case measure=>simp [intOf]
  ·obtain rfl:k=0:=by omega
   obtain ⟨h1,h2,h3,h4⟩:=hD.done;have H2:=hQ9 h2;have H3:=hQ9 h3;have H4:=hQ9 h4;clear h2 h3 h4 hD;have hsz:=hb.size;go_wp2_with fail
   refine (qB0 _ _ _ hown.isS h1 (by have:=H2.out;omega)).mono ?_;rintro e w' ⟨v',rfl,hv,hf,hb2⟩;go_wp2;go_ret2;rw [H4.out];exact ⟨_,rfl,by rw [H3.out] at hv;exact hv,hf.mono hsz,hb.trans (hb2.mono hsz)⟩
theorem qR (v:Value) (x:Nat) (mI cI:Int) (m c:Nat) (w:World) (hm:mI=(m:Int)) (hc:cI=(c:Int)) (h:IsS w .i64 v (digs 10000 x)) (hl:(digs 10000 x).length<=1000000) (m1:m<=4294967296) (c1:c<=4294967296) (y:Nat) (hy:y=x*m+c) :
  Calls prog 75 #[v,.int .i64 mI,.int .i64 cI] w (zD7 .i64 (digs 10000 y) w):=by
 have:=yV6 v _ mI cI m c w hm hc h (zF8 (by omega) x) hl m1 c1
 rw [zF (by omega)] at this;rw [hy];exact this
theorem yV8 (v:Value) (x:Nat) (dI:Int) (d q r:Nat) (w:World) (hd:dI=(d:Int)) (h:IsS w .i64 v (digs 10000 x)) (hl:(digs 10000 x).length<=1000000) (d0:1<=d) (d1:d<=4294967296) (hq:q=x / d) (hr:r=x % d) :
  Calls prog 143 #[v,.int .i64 dI] w (zO3 .i64 (digs 10000 q) (r:Int) w):=by
 have:=yV7 v _ dI d w hd h (zF8 (by omega) x) hl d0 d1
 rw [zF (by omega)] at this;rw [hq,hr];exact this
theorem yV9 (v:Value) (l:List Nat) (w:World) (h:IsS w .u64 v l) (hlt:Lt 4294967296 l) (hl:l.length<=100000) :
  Calls prog 107 #[v] w (zD7 .i64 (digs 10000 (val 4294967296 l)) w):=by
 obtain ⟨A,cap,rfl,hcap,hcm,hr⟩:=h
 go_enter func107,ntmps107
 go_wp2
 go_loopw [3,4] (fun vo vi wr => ∃ k:Nat,k<=l.length/\IsS wr .i64 vo (digs 10000 (val 4294967296 (l.drop k)))/\zE5 w.heap.size vo/\Below w.heap.size w wr/\vi=.int .i64 ((k:Int)-1)) (fun _ vi _=>(intOf vi+1).toNat)
 case atStart=>exact ⟨l.length,by omega,by rw [List.drop_length,zY2,zJ];exact (zP w w.heap.size _ .i64 (zB3 _)).isS,(zP w w.heap.size 3 .i64 (zB3 _)).fresh,zC9 (zB3 _) _,rfl⟩
 case round =>
  obtain ⟨k,hk,ho,hfo,hb,rfl⟩:=hrel;have hsz:=hb.size;by_cases hp:0<k
  ·obtain ⟨j,rfl⟩:∃ j,k=j+1:=⟨k-1,by omega⟩;obtain ⟨ad,a,rfl,ha,hcell⟩:=(hr.bQ hb).at_ (i:=j) (by omega);have ha1:=hlt.at ha;have HY:=hQ9 (qE2 (B:=4294967296) ha);clear ha
   have hl2:(digs 10000 (val 4294967296 (l.drop (j+1)))).length<=1000000:=by
    have h1:=yU7 (hlt.drop (j+1));have h2:(l.drop (j+1)).length<=l.length:=by simp
    omega
   go_wp2_with fail
   refine (qR _ _ _ _ 4294967296 a _ (by omega) (by omega) ho hl2 (by omega) (by omega) (val 4294967296 (l.drop j)) (by have:=HY.out;omega)).mono ?_;rintro e w' ⟨v',rfl,hv,hf,hb2⟩;go_wp2;go_roundw;case rel=>exact ⟨j,by omega,hv,hf.mono hsz,hb.trans (hb2.mono hsz),by go_num⟩
   case measure=>simp [intOf]
  ·obtain rfl:k=0:=by omega
   go_wp2;go_ret;exact ⟨_,rfl,by simpa using ho,hfo,hb⟩
theorem qE4 (v:Value) (x:Nat) (w:World) (h:IsS w .u64 v (digs 4294967296 x)) (hl:(digs 4294967296 x).length<=100000) :
  Calls prog 107 #[v] w (zD7 .i64 (digs 10000 x) w):=by
 have:=yV9 v _ w h (zF8 (by omega) x) hl
 rwa [zF (by omega)] at this
theorem yA5 (v:Value) (x:Nat) (w:World) (h:IsS w .i64 v (digs 10000 x)) (hl:(digs 10000 x).length<=100000) (hl2:(digs 4294967296 x).length<=100000) :
  Calls prog 125 #[v] w (zD7 .u64 (digs 4294967296 x) w):=by
 go_enter func125,ntmps125
 go_wp2
 go_loopw [0,3] (fun va vo wr => ∃ (y:Nat) (o:List Nat),IsS wr .i64 va (digs 10000 y)/\Own wr w.heap.size 75 .u64 vo o/\Hid (o ++ digs 4294967296 y=digs 4294967296 x)/\(digs 10000 y).length<=100000/\Below w.heap.size w wr) (fun va _ _=>lenOf va)
 case atStart=>exact ⟨x,[],h.bQ (zC9 (zB3 _) _),zP w _ _ .u64 (zB3 _),rfl,hl,zC9 (zB3 _) _⟩
 case round =>
  obtain ⟨y,o,hy,hown,HO,hly,hb⟩:=hrel;have hsz:=hb.size;obtain ⟨A,c,rfl,hc1,hc2,hr⟩:=id hy
  have hol:o.length<=100000:=by
   have:=congrArg List.length HO.out
   rw [zA8] at this;omega
  by_cases hy0:y=0
  ·have hz:(digs 10000 y).length<=0:=by rw [hy0,zJ];simp
   have HE:Hid (o=digs 4294967296 x):=by have:=HO.out;rw [hy0,zJ,List.append_nil] at this;exact this
   clear hy0;go_wp2;go_ret;exact ⟨_,rfl,by have:=hown.isS;rw [HE.out] at this;exact this,hown.fresh,hb⟩
  ·have hz:0<(digs 10000 y).length:=by have:=(qA8 (B:=10000) (by omega) (x:=y)).1;omega
   obtain ⟨r,hr'⟩:∃ r,r=y % 4294967296:=⟨_,rfl⟩;have hr1:r<4294967296:=by omega
   have HS:Hid ((o ++ [r]) ++ digs 4294967296 (y / 4294967296)=digs 4294967296 x):=by
    have:=HO.out
    rw [zU (by omega) (by omega)] at this;rw [hr',List.append_assoc];exact this
   have hdl:=yU8 (B:=10000) (d:=4294967296) (by omega) (by omega) (show 0<y by omega);have HR:=hQ9 hr';clear hr';go_wp2_with fail
   refine (yV8 _ y _ 4294967296 (y / 4294967296) r _ (by omega) hy (by omega) (by omega) (by omega) rfl HR.out).mono ?_;rintro e w' ⟨vq,rfl,hq,hfq,hb2⟩;have hown2:=hown.bQ hb2;have hsz2:=hb2.size;have hun:=hown.under;clear hown
   go_wp2_with (at_builtin;refine zS6 rfl (.tmp 15) (.tmp 18) rfl zK1 r rfl hown2 rfl (by omega) (by omega) (by omega) ?_;intro v' w1 hown1 hb1 hg1)
   have hq1:=hq.apart hfq hun hg1;go_roundw;case rel=>exact ⟨_,_,hq1,hown1,HS,by omega,(hb.trans (hb2.mono hsz)).trans hb1⟩
   case measure =>
    obtain ⟨A',c',rfl,_⟩:=hq1;exact hdl
section
open Classical
end
def zN5 (l:List Nat) (most:Nat):List Nat:=(l.take most).map (· % 4294967296)
theorem yA6 (l:List Nat) (most:Nat):Lt 4294967296 (zN5 l most):=by
 intro d hd;obtain ⟨a,_,rfl⟩:=List.mem_map.1 hd;exact Nat.mod_lt _ (by omega)
theorem yW (l:List Nat) (most:Nat):(zN5 l most).length<=most:=by simp [zN5];omega
theorem yW0 {l:List Nat} {n d:Nat} (hd:l[n]?=some d):zN5 l (n+1)=zN5 l n ++ [d % 4294967296]:=by unfold zN5;rw [zY3 hd,List.map_append];rfl
theorem yW1 {l:List Nat} {n most:Nat} (h:n=l.length\/n=most) (hl:n<=l.length) (hm:n<=most):zN5 l n=zN5 l most:=by
 rcases h with rfl|rfl
 ·unfold zN5;rw [zA7 (by omega),zA7 (by omega)]
 ·rfl
theorem yW2 (v:Value) (l:List Nat) (mI:Int) (most:Nat) (w:World) (hmI:mI=(most:Int)) (h:IsS w .u64 v l) (hu:Lt 18446744073709551616 l) (hmost:most<=1000000) :
  Calls prog 103 #[v,.int .i64 mI] w (zD7 .u64 (trim (zN5 l most)) w):=by
 subst hmI;obtain ⟨A,c,rfl,hc,hm,hr⟩:=h;have hm':=hm;unfold maxLen at hm'
 go_enter func103,ntmps103
 go_wp2
 go_loopw [5,6] (fun vo vi wr => ∃ (k:Nat) (o:List Nat),k<=l.length/\k<=most/\Own wr w.heap.size 75 .u64 vo o/\Hid (o=zN5 l k)/\o.length<=k/\Below w.heap.size w wr/\vi=.int .i64 (k:Int)) (fun _ vi _=>l.length-(intOf vi).toNat)
 case atStart=>exact ⟨0,[],by omega,by omega,zP w _ _ .u64 (zB3 _),by show _=_;simp [zN5],by simp,zC9 (zB3 _) _,rfl⟩
 case round =>
  obtain ⟨k,o,hk,hk2,hown,HO,hok,hb,rfl⟩:=hrel;have hsz:=hb.size;by_cases hlt:k<l.length/\k<most
  ·obtain ⟨hlt1,hlt2⟩:=hlt;obtain ⟨ad,d,rfl,hd,hcell⟩:=(hr.bQ hb).at_ hlt1;have hd2:(d:Int)<=18446744073709551615:=by have:=hu.at hd;omega
   have HN:Hid (o ++ [d % 4294967296]=zN5 l (k+1)):=by show _=_;rw [yW0 hd,HO.out]
   clear hd
   go_wp2_with (at_builtin;refine zS6 rfl (.tmp 19) (.tmp 25) rfl zK1 (d % 4294967296) rfl hown rfl (by omega) (by omega) (by omega) ?_;intro v' w1 hown1 hb1 hg1)
   go_roundw;case rel=>exact ⟨k+1,_,by omega,by omega,hown1,HN,by simp;omega,hb.trans hb1,by go_num⟩
   case measure=>simp [intOf];omega
  ·have HC:Hid (o=zN5 l most):=by show _=_;rw [HO.out];exact yW1 (by omega) hk hk2
   have hv:=hown.isS;have hf:=hown.fresh;clear HO hown;rcases (show (k<l.length /\ ¬ k<most) \/ ¬ k<l.length from by omega) with ⟨hlt1,hlt2⟩|hlt1
   all_goals
    clear hlt;go_wp2
    go_loopw [5] (fun vo wr => ∃ m:List Nat,IsS wr .u64 vo m/\Hid (trim m=trim o)/\zE5 w.heap.size vo/\Below w.heap.size w wr) (fun vo _=>lenOf vo)
    case atStart=>exact ⟨o,hv,rfl,hf,hb⟩
    case round =>
     clear hv hf hb hsz;obtain ⟨m,hv,HM,hf,hb⟩:=hrel;obtain ⟨A',c',rfl,hc1,hc2,hr1⟩:=id hv;unfold maxLen at hc2;by_cases hl0:0<m.length
     ·obtain ⟨ad,d,rfl,hd,hcell⟩:=hr1.at_ (i:=m.length-1) (by omega);by_cases hd0:d=0
      ·subst hd0
       have HN:Hid (trim (m.take (m.length-1))=trim o):=by
        have h1:=qE0 hd;rw [show m.length-1+1=m.length from by omega,bX1] at h1;show _=_
        rw [<- h1];exact HM.out
       have hv2:=hr1.isTake (n:=m.length-1) (by omega) hc1 (by unfold maxLen;omega);clear hd;go_wp2;go_roundw;case rel=>exact ⟨_,hv2,HN,fun ad' n' c'' e=>by injection e with e1 _ _;injection e1 with e1;subst e1;exact hf _ _ _ rfl,hb⟩
       case measure=>simp [lenOf];omega
      ·have HN:Hid (m=trim o):=by
        have h1:=qA9 hd hd0;rw [show m.length-1+1=m.length from by omega,bX1] at h1;show _=_
        rw [<- h1];exact HM.out
       have hz:((d:Int) == 0)=false:=by rw [beq_eq_false_iff_ne];omega
       clear hd hd0;go_wp2;go_ret;exact ⟨_,rfl,by rw [<- HC.out,<- HN.out];exact hv,hf,hb⟩
     ·obtain rfl:m=[]:=List.length_eq_zero_iff.1 (by omega);have HN:Hid (([]:List Nat)=trim o):=HM.out;go_wp2;go_ret;exact ⟨_,rfl,by rw [<- HC.out,<- HN.out];exact hv,hf,hb⟩
end nat
namespace nat
open Go.RowKit num mem
def zQ1 (l m:List Nat):Bool:=decide (l=m)
theorem yW3 (l:List Nat):zQ1 l l=true:=by simp [zQ1]
theorem yW4 {l m:List Nat} (h:¬ l.length=m.length):zQ1 l m=false:=by
 unfold zQ1;rw [decide_eq_false_iff_not];rintro rfl;exact h rfl
theorem yW5 {l m:List Nat} {i d e:Nat} (hd:l[i]?=some d) (he:m[i]?=some e) (h:¬ d=e):zQ1 l m=false:=by
 unfold zQ1;rw [decide_eq_false_iff_not];rintro rfl;rw [hd] at he;injection he with he;exact h he
theorem yW6 (v u:Value) (x y:Nat) (w:World) (h:IsS w .i64 v (digs 10000 x)) (h':IsS w .i64 u (digs 10000 y)) :
  Calls prog 109 #[v,u] w (zE1 (.int .i64 (ord x y)) w):=by
 have lt1:=zF8 (B:=10000) (by omega) x;have lt2:=zF8 (B:=10000) (by omega) y;obtain ⟨A,c,rfl,hc,hm,hr⟩:=h;obtain ⟨A',c',rfl,hc',hmm,hr'⟩:=h';unfold maxLen at hm hmm;by_cases hne:(digs 10000 x).length=(digs 10000 y).length
 ·have hb1:(((digs 10000 x).length:Int) != ((digs 10000 y).length:Int))=false:=by rw [hne];simp
  have HL:=hQ9 hne;have hl1:(digs 10000 x).length<=(digs 10000 y).length:=by omega
  have hl2:(digs 10000 y).length<=(digs 10000 x).length:=by omega
  clear hne
  go_enter func109,ntmps109
  go_wp2
  go_loopw [5] (fun vi wr => ∃ k:Nat,k<=(digs 10000 x).length/\Hid ((digs 10000 x).drop k=(digs 10000 y).drop k)/\Below w.heap.size w wr/\vi=.int .i64 ((k:Int)-1)) (fun vi _=>(intOf vi+1).toNat)
  case atStart=>exact ⟨(digs 10000 x).length,by omega,by show _=_;rw [List.drop_length,List.drop_of_length_le hl2],Below.refl _ _,rfl⟩
  case round =>
   obtain ⟨k,hk,HT,hb,rfl⟩:=hrel;by_cases hlt:0<k
   ·obtain ⟨j,rfl⟩:∃ j,k=j+1:=⟨k-1,by omega⟩;obtain ⟨ad,d,rfl,hd,hcell⟩:=(hr.bQ hb).at_ (i:=j) (by omega);obtain ⟨ad',e,rfl,he,hcell'⟩:=(hr'.bQ hb).at_ (i:=j) (by omega);rcases Nat.lt_trichotomy d e with hde | hde | hde
    ·have HN:Hid (ord x y = -1):=by
      have:=qJ8 lt1 lt2 HL.out hd he HT.out hde
      rw [zF (by omega),zF (by omega)] at this;exact zS4 this
     clear hd he;go_wp2
     go_quiet (fail)
     go_wp2;go_ret;exact ⟨by rw [HN.out];rfl,zP0 hb _⟩
    ·subst hde;have HN:Hid ((digs 10000 x).drop j=(digs 10000 y).drop j):=qZ9 hd he HT.out;clear hd he;go_wp2
     go_quiet (fail)
     go_wp2
     go_quiet (fail)
     go_wp2;go_roundw;case rel=>exact ⟨j,by omega,HN,zP0 hb _,by go_num⟩
     case measure=>simp [intOf]
    ·have HN:Hid (ord x y=1):=by
      have:=qJ8 lt2 lt1 HL.out.symm he hd HT.out.symm hde
      rw [zF (by omega),zF (by omega)] at this;exact zU0 this
     clear hd he;go_wp2
     go_quiet (fail)
     go_wp2
     go_quiet (fail)
     go_wp2;go_ret;exact ⟨by rw [HN.out];rfl,zP0 (zP0 hb _) _⟩
   ·obtain rfl:k=0:=by omega
    have HN:Hid (ord x y=0):=by
     have:=HT.out
     rw [List.drop_zero,List.drop_zero] at this;have e:=congrArg (val 10000) this;rw [zF (by omega),zF (by omega)] at e;rw [e];exact qE1 y
    go_wp2;go_ret;exact ⟨by rw [HN.out];rfl,hb⟩
 ·have hb1:(((digs 10000 x).length:Int) != ((digs 10000 y).length:Int))=true:=by rw [bne_iff_ne];omega
  by_cases hlt:(digs 10000 x).length<(digs 10000 y).length
  ·have HN:Hid (ord x y = -1):=zS4 (qJ7 (by omega) hlt);clear hne
   go_enter func109,ntmps109
   go_wp2;go_ret;exact ⟨by rw [HN.out];rfl,Below.refl _ _⟩
  ·have HN:Hid (ord x y=1):=zU0 (qJ7 (B:=10000) (by omega) (by omega));clear hne
   go_enter func109,ntmps109
   go_wp2;go_ret;exact ⟨by rw [HN.out];rfl,Below.refl _ _⟩
theorem yA7 {B:Nat} {l:List Nat} {k:Nat} (h:l.length<=k):val B (l.take (k+1))=val B (l.take k):=by rw [zA7 h,zA7 (by omega)]
def SB (B:Nat) (l m:List Nat) (k c:Nat) (o:List Nat):Prop:=Lt B o/\o.length=k/\val B o+val B (m.take k)=val B (l.take k)+B^k*c
theorem SB.start (B:Nat) (l m:List Nat):SB B l m 0 0 []:=by unfold SB;exact ⟨Lt.nil _,rfl,by simp [val]⟩
theorem SB.step {B:Nat} {l m o:List Nat} {k c d e x c':Nat} (h:SB B l m k c o) (hd:l[k]?=some d) (he:m[k]?=some e\/m.length<=k/\e=0) (hx:x<B) (hs:x+e+c=d+B*c'):SB B l m (k+1) c' (o ++ [x]):=by
 unfold SB at h |-;obtain ⟨h1,h2,h3⟩:=h
 have ee:val B (m.take (k+1))=val B (m.take k)+B^k*e:=by
  rcases he with he | ⟨he,rfl⟩
  ·exact zJ7 he
  ·rw [yA7 he];omega
 refine ⟨h1.snoc hx,by simp [h2],?_⟩;rw [zT9,h2,zJ7 hd,ee,bY1,bX8]
 have e1:B^k*x+B^k*e+B^k*c=B^k*d+B^k*(B*c'):=by
  rw [<- Nat.mul_add,<- Nat.mul_add,<- Nat.mul_add,hs]
 omega
theorem SB.done {B:Nat} {l m o:List Nat} {c:Nat} (h:SB B l m l.length c o) (hm:m.length<=l.length) (hle:val B m<=val B l):Lt B o/\val B o=val B l-val B m:=by
 unfold SB at h;obtain ⟨h1,h2,h3⟩:=h;rw [bX1,zA7 hm] at h3;have h4:=zM8 h1;rw [h2] at h4
 have hc:c=0:=by
  rcases bY3 c with h5 | h5
  ·exact h5
  ·have:=bY (B^l.length) h5
   omega
 subst hc;exact ⟨h1,by omega⟩
theorem yW7 (v u:Value) (l m:List Nat) (w:World) (h:IsS w .i64 v l) (h':IsS w .i64 u m) (lt1:Lt 10000 l) (lt2:Lt 10000 m) (hl:l.length<=1000000) (hml:m.length<=l.length) (hle:val 10000 m<=val 10000 l) :
  Calls prog 110 #[v,u] w (zD7 .i64 (digs 10000 (val 10000 l-val 10000 m)) w):=by
 obtain ⟨A,c,rfl,hc,hm,hr⟩:=h;obtain ⟨A',c',rfl,hc',hmm,hr'⟩:=h';have HLE:=hQ9 hle;clear hle
 go_enter func110,ntmps110
 go_wp2
 go_loopw [5,6,7] (fun vo vc vi wr => ∃ (k cy:Nat) (o:List Nat),k<=l.length/\cy<=1/\SB 10000 l m k cy o/\Own wr w.heap.size 3 .i64 vo o/\o.length<=k/\Below w.heap.size w wr/\vc=.int .i64 (cy:Int)/\vi=.int .i64 (k:Int)) (fun _ _ vi _=>l.length-(intOf vi).toNat)
 case atStart=>exact ⟨0,0,[],by omega,by omega,SB.start _ _ _,zP w _ _ .i64 (zB3 _),by simp,zC9 (zB3 _) _,rfl,rfl⟩
 case round =>
  obtain ⟨k,cy,o,hk,hcy,hA,hown,hok,hb,rfl,rfl⟩:=hrel;have hsz:=hb.size;by_cases h1:k<l.length
  ·obtain ⟨ad,d,rfl,hd,hcell⟩:=(hr.bQ hb).at_ h1;have hd1:=lt1.at hd;by_cases h2:k<m.length
   ·obtain ⟨ad',e,rfl,he,hcell'⟩:=(hr'.bQ hb).at_ h2;have he1:=lt2.at he;by_cases hn:d<e+cy
    ·have HS:=hQ9 (hA.step hd (.inl he) (x:=d+10000-e-cy) (c':=1) (by omega) (by omega));clear hd he hA
     go_wp2_with (at_builtin;refine zS6 rfl _ _ rfl zQ0 (d+10000-e-cy) rfl hown rfl (by omega) (by omega) (by omega) ?_;intro v' w1 hown1 hb1 hg1)
     go_roundw;case rel=>exact ⟨k+1,1,_,by omega,by omega,HS.out,hown1,by simp;omega,hb.trans hb1,rfl,by go_num⟩
     case measure=>simp [intOf];omega
    ·have HS:=hQ9 (hA.step hd (.inl he) (x:=d-e-cy) (c':=0) (by omega) (by omega));clear hd he hA
     go_wp2_with (at_builtin;refine zS6 rfl _ _ rfl zQ0 (d-e-cy) rfl hown rfl (by omega) (by omega) (by omega) ?_;intro v' w1 hown1 hb1 hg1)
     go_roundw;case rel=>exact ⟨k+1,0,_,by omega,by omega,HS.out,hown1,by simp;omega,hb.trans hb1,rfl,by go_num⟩
     case measure=>simp [intOf];omega
   ·by_cases hn:d<cy
    ·have HS:=hQ9 (hA.step hd (e:=0) (.inr ⟨by omega,rfl⟩) (x:=d+10000-cy) (c':=1) (by omega) (by omega));clear hd hA
     go_wp2_with (at_builtin;refine zS6 rfl _ _ rfl zQ0 (d+10000-cy) rfl hown rfl (by omega) (by omega) (by omega) ?_;intro v' w1 hown1 hb1 hg1)
     go_roundw;case rel=>exact ⟨k+1,1,_,by omega,by omega,HS.out,hown1,by simp;omega,hb.trans hb1,rfl,by go_num⟩
     case measure=>simp [intOf];omega
    ·have HS:=hQ9 (hA.step hd (e:=0) (.inr ⟨by omega,rfl⟩) (x:=d-cy) (c':=0) (by omega) (by omega));clear hd hA
     go_wp2_with (at_builtin;refine zS6 rfl _ _ rfl zQ0 (d-cy) rfl hown rfl (by omega) (by omega) (by omega) ?_;intro v' w1 hown1 hb1 hg1)
     go_roundw;case rel=>exact ⟨k+1,0,_,by omega,by omega,HS.out,hown1,by simp;omega,hb.trans hb1,rfl,by go_num⟩
     case measure=>simp [intOf];omega
  ·obtain rfl:k=l.length:=by omega
   obtain ⟨g1,g2⟩:=hA.done hml HLE.out;have HV:=hQ9 g2;clear g2 hA;go_wp2_with fail
   refine (qB0 _ _ _ hown.isS g1 (by omega)).mono ?_;rintro e w' ⟨v2,rfl,hv,hf,hb2⟩;go_wp2;go_ret;exact ⟨_,rfl,by rw [HV.out] at hv;exact hv,hf.mono hsz,hb.trans (hb2.mono hsz)⟩
theorem yW8 (v u:Value) (x y:Nat) (w:World) (h:IsS w .i64 v (digs 10000 x)) (h':IsS w .i64 u (digs 10000 y)) (hl:(digs 10000 x).length<=1000000) (hle:y<=x) (z:Nat) (hz:z=x-y) :
  Calls prog 110 #[v,u] w (zD7 .i64 (digs 10000 z) w):=by
 have:=yW7 v u _ _ w h h' (zF8 (by omega) x) (zF8 (by omega) y) hl (zG1 (by omega) hle) (by rw [zF (by omega),zF (by omega)];exact hle)
 rw [zF (by omega),zF (by omega)] at this;rw [hz];exact this
theorem yA8 (v u:Value) (x y:Nat) (t:Int) (w:World) (h:IsS w .i64 v (digs 10000 x)) (h':IsS w .i64 u (digs 10000 y)) (ht:t=ord x y) :
 Calls prog 109 #[v,u] w (zE1 (.int .i64 t) w):=by rw [ht];exact yW6 v u x y w h h'
def BS (y R lo hi:Nat):Prop:=y*lo<=R/\R<y*hi
theorem BS.done {y R lo:Nat} (h:BS y R lo (lo+1)):lo=R / y:=by
 unfold BS at h;obtain ⟨h1,h2⟩:=h
 have hy:0<y:=by
  rcases bY3 y with h3 | h3
  ·subst h3;omega
  ·exact h3
 have h4:=Nat.div_lt_of_lt_mul h2;have h5:=(Nat.le_div_iff_mul_le hy).2 (by rw [bY0];exact h1);omega
theorem yW9 {y R:Nat} (h:R<10000*y):(digs 10000 R).length<=(digs 10000 y).length+1:=by
 refine zG7 (by omega) ?_
 have:=zK6 (B:=10000) (by omega) y
 rw [bY1];omega
theorem yX (v u : Value) (l : List Nat) (y : Nat) (w : World) (h : IsS w .i64 v l) (h' : IsS w .i64 u (digs 10000 y)) (lt1 : Lt 10000 l) (hl : l.length <= 100000) (hl' : (digs 10000 y).length <= 100000) (hy : 0 < y) :
    Calls prog 73 #[v,u] w (zU1 .i64 (digs 10000 (val 10000 l / y)) (digs 10000 (val 10000 l % y)) w):=by
  obtain ⟨A,cA,rfl,hc,hm,hr⟩:=h
  go_enter func73,ntmps73
  go_wp2_with (at_make;refine zR4 rfl _ _ rfl zQ0 l.length rfl rfl rfl rfl (by omega) (zB3 _) ?_;intro w1 hown1 hb1 hz1)
  go_loopw [7,8] (fun vr vi wr => ∃ (k r:Nat) (o:List Nat),k<=l.length/\r<y/\DS l y k r o/\Own wr w.heap.size 3 .i64 (.slice (some ⟨w.heap.size,0,none⟩) l.length l.length) o/\w.heap.size<wr.heap.size/\IsS wr .i64 vr (digs 10000 r)/\zE5 (w.heap.size+1) vr/\Below w.heap.size w wr/\vi=.int .i64 ((k:Int)-1)) (fun _ vi _=>(intOf vi+1).toNat)
  case atStart=>exact ⟨l.length,0,_,by omega,hy,DS.start l hy,hown1.alloc _,by simp;omega,by rw [zJ];exact (zP w1 w1.heap.size _ .i64 (zB3 _)).isS,qK1 (by omega),hb1.trans (zC9 (by omega) _),rfl⟩
  case round =>
    clear hown1 hb1 hz1;obtain ⟨k,r,o,hk,hry,hD,hown,hz,hvr,hfr,hb,rfl⟩:=hrel;obtain ⟨wo,rfl⟩:∃ wo:World,wo=wr:=⟨_,rfl⟩;by_cases hp:0<k
    · obtain ⟨j, rfl⟩ : ∃ j, k = j + 1 := ⟨k - 1, by omega⟩;obtain ⟨ad,a,rfl,ha,hcell⟩:=(hr.bQ hb).at_ (i:=j) (by omega);have ha1:=lt1.at ha;obtain ⟨R,hR⟩ : ∃ R,R = 10000 * r + a:=⟨_,rfl⟩;have HD:=hD.step ha ha1;rw [<- hR] at HD;have HR:=hQ9 hR;have hRy : R < 10000 * y:=by omega
      have hlr:=zG1 (B:=10000) (by omega) (show r<=y by omega);have hlR:=yW9 hRy;obtain ⟨A2,c2,rfl,hc2,hm2,hr2⟩:=id hvr;clear hR hD ha;have hb0:Below wo.heap.size wo (wo.alloc (.cells #[.int .i64 (a:Int)] 3)):=zC9 (zB3 _) _
      go_wp2_with (at_builtin;refine qB rfl _ _ rfl zQ0 rfl (yA4 (d:=a) wo wo.heap.size _ .i64 rfl (zB3 _)) rfl (news:=digs 10000 r) rfl (hr2.bQ hb0) (by simp;omega) (by simp) ?_;intro v' w1 hown1 hb1 hg1)
      have hb2:=hb0.trans hb1;have hsz2:=hb2.size;have hv1:=hown1.isS;have hd1:Lt 10000 ([a] ++ digs 10000 r):=(Lt.cons ha1 (Lt.nil _)).append (zF8 (by omega) r);have he1:val 10000 ([a] ++ digs 10000 r)=R:=by rw [zL6,zF (by omega),HR.out];simp [val];omega
      have HE:=hQ9 he1;clear he1;refine (qB0 _ _ _ hv1 hd1 (by simp;omega)).mono ?_;rintro e w2 ⟨v2,rfl,hv2,hf2,hb3⟩;rw [HE.out] at hv2;have hb4:=hb2.trans (hb3.mono hsz2);have hsz4:=hb4.size;have hsz3:=hb3.size;have hown2:=hown.bQ hb4;have hf3:zE5 (w.heap.size+1) v2:=hf2.mono (by omega);have hb5:=hb.trans (hb4.mono (by omega));have hz5:w.heap.size<w2.heap.size:=by omega
      clear hb0 hb1 hg1 hown1 hv1 hd1 hb2 hb3 hb4 hf2 hr2 hvr hfr hcell hown HE hb;go_wp2
      go_loopw [9,10] (fun vlo vhi wr => ∃ (lo hi:Nat),lo<hi/\hi<=10000/\BS y R lo hi/\Below w2.heap.size w2 wr/\vlo=.int .i64 (lo:Int)/\vhi=.int .i64 (hi:Int)) (fun vlo vhi _=>(intOf vhi-intOf vlo).toNat)
      case atStart=>exact ⟨0,10000,by omega,by omega,by unfold BS;omega,Below.refl _ _,rfl,rfl⟩
      case round =>
        obtain ⟨lo,hi,hlh,hhi,hB,hbi,rfl,rfl⟩:=hrel;have hszi:=hbi.size;have hui:=h'.bQ (hb5.trans (hbi.mono (by omega)) |>.mono (by omega));have hvi:=hv2.bQ hbi;by_cases hgo:1<hi-lo
        · obtain ⟨mid,hmid⟩:∃ mid,mid=(lo+hi) / 2:=⟨_,rfl⟩;have hm1:lo<mid:=by omega
          have hm2:mid<hi:=by omega
          have hm3:(lo+hi) / 2<=mid:=by omega
          have hm4:mid<=(lo+hi) / 2:=by omega
          clear hmid;go_wp2_with fail
          refine (qR _ y _ _ mid 0 _ (by omega) rfl hui (by omega) (by omega) (by omega) (y*mid) (by omega)).mono ?_;rintro e w3 ⟨v3,rfl,hv3,hf3',hb6⟩;have hvi3:=hvi.bQ hb6;have hsz6:=hb6.size;by_cases hle:y*mid<=R
          · obtain ⟨t,ht⟩:∃ t,t=ord (y*mid) R:=⟨_,rfl⟩;have ht0:t<=0:=by rw [ht];exact qZ8.2 hle
            have HT:=hQ9 ht;have HB:BS y R mid hi:=by unfold BS at hB |-;exact ⟨hle,hB.2⟩
            clear ht hB hle;go_wp2_with fail
            refine (yA8 _ _ _ _ t _ hv3 hvi3 HT.out).mono ?_;rintro e w4 ⟨rfl,hb7⟩;go_wp2;go_roundw;case rel=>exact ⟨mid,hi,by omega,by omega,HB,hbi.trans ((hb6.trans (hb7.mono hsz6)).mono hszi),zV5 (by omega),rfl⟩
            case measure=>simp [intOf];omega
          · obtain ⟨t,ht⟩:∃ t,t=ord (y*mid) R:=⟨_,rfl⟩
            have ht0:0<t:=by
              have:=(qZ8 (x:=y*mid) (y:=R)).1
              rw [ht];omega
            have HT:=hQ9 ht;have HB:BS y R lo mid:=by unfold BS at hB |-;exact ⟨hB.1,by omega⟩
            clear ht hB hle;go_wp2_with fail
            refine (yA8 _ _ _ _ t _ hv3 hvi3 HT.out).mono ?_;rintro e w4 ⟨rfl,hb7⟩;go_wp2;go_roundw;case rel=>exact ⟨lo,mid,by omega,by omega,HB,hbi.trans ((hb6.trans (hb7.mono hsz6)).mono hszi),rfl,zV5 (by omega)⟩
            case measure=>simp [intOf];omega
        · obtain rfl:hi=lo+1:=by omega
          have hq:=hB.done;clear hB;have HQ:=hQ9 hq;rw [<- hq] at HD;clear hq;have hownI:=hown2.bQ hbi;obtain ⟨x,hx⟩:∃ x,o[j]?=some x:=⟨_,zA3 (by have:=HD.2.1;rw [zB2] at this;omega)⟩;have hc0:=hownI.cellAt hx;have hf0:=hownI.frozenAt j;have hownS:=hownI.stored j lo;have hbS:Below w.heap.size w (wr.setCell ⟨w.heap.size,j,none⟩ (.int .i64 (lo:Int))):=(hb5.trans (hbi.mono (by omega))).setCell (zB3 _) _;have hviS:=hvi.setCell (p:=⟨w.heap.size,j,none⟩) hf3 (Nat.lt_succ_self _) (.int .i64 (lo:Int));have hrm:R % y<y:=Nat.mod_lt _ hy;have hszS:(wr.setCell ⟨w.heap.size,j,none⟩ (.int .i64 (lo:Int))).heap.size=wr.heap.size:=by simp [World.setCell]
          have HSZ:=hQ9 hszS;clear hx hszS hownI;go_wp2_with fail
          refine (qR _ y _ _ lo 0 _ (by omega) rfl (h'.bQ hbS) (by omega) (by omega) (by omega) (y*lo) (by omega)).mono ?_;rintro e w3 ⟨v3,rfl,hv3,hf3',hb6⟩;have hsz6:=hb6.size;rw [HSZ.out] at hsz6;go_wp2_with fail
          refine (yW8 _ _ R (y*lo) _ (hviS.bQ hb6) hv3 (by omega) (by rw [HQ.out];exact Nat.mul_div_le R y) (R % y) (by have:=Nat.mod_add_div R y;rw [HQ.out];omega)).mono ?_;rintro e w4 ⟨v4,rfl,hv4,hf4,hb7⟩;have hsz7:=hb7.size;have hb8:=hbS.trans ((hb6.mono (by rw [HSZ.out];omega)).trans (hb7.mono (by omega)));have hown4:=(hownS.bQ hb6).bQ hb7;go_wp2;go_roundw;case rel=>exact ⟨j,R % y,_,by omega,hrm,HD,hown4,by omega,hv4,hf4.mono (by omega),hb8,by go_num⟩
          case measure=>simp [intOf]
    · obtain rfl:k=0:=by omega
      obtain ⟨g1,g2,g3,g4⟩:=hD.done;have H3:=hQ9 g3;have H4:=hQ9 g4;have hol:o.length<=1000000000000:=by omega
      have hsz:=hb.size;clear g2 g3 g4 hD;go_wp2_with fail
      refine (qB0 _ _ _ hown.isS g1 hol).mono ?_;rintro e w' ⟨v2,rfl,hv,hf,hb2⟩;go_wp2;go_ret2;exact ⟨_,_,rfl,by rw [H3.out] at hv;exact hv,by rw [<- H4.out];exact hvr.bQ hb2,hf.mono hsz,hfr.mono (by omega),hb.trans (hb2.mono hsz)⟩
theorem qE5 (v u:Value) (x y:Nat) (w:World) (h:IsS w .i64 v (digs 10000 x)) (h':IsS w .i64 u (digs 10000 y)) (hl:(digs 10000 x).length<=100000) (hl':(digs 10000 y).length<=100000) (hy:0<y) :
  Calls prog 73 #[v,u] w (zU1 .i64 (digs 10000 (x / y)) (digs 10000 (x % y)) w):=by
 have:=yX v u _ y w h h' (zF8 (by omega) x) hl hl' hy
 rwa [zF (by omega)] at this
end nat
namespace limb
open Go.RowKit
set_option maxRecDepth 100000
def qB1 (a b c s o:Int):Prop:=0<=s/\s<4294967296/\0<=o/\o<=2/\s+4294967296*o=a % 4294967296+b % 4294967296+c % 4294967296
def qR0 (a b c s o:Int):Prop:=0<=s/\s<4294967296/\0<=o/\o<=2/\s-4294967296*o=a % 4294967296-b % 4294967296-c % 4294967296
def qK2 (a b c d s o:Int):Prop:=0<=s/\s<4294967296/\0<=o/\o<4294967296/\s+4294967296*o=(a % 4294967296)*(b % 4294967296)+c % 4294967296+d % 4294967296
theorem mul_bd (x y:Int) (hx:0<=x) (hx':x<=4294967295) (hy:0<=y) (hy':y<=4294967295):0<=x*y/\x*y<=18446744065119617025:=by
 refine ⟨Int.mul_nonneg hx hy,?_⟩
 have:=Int.mul_le_mul hx' hy' hy (by omega)
 omega
theorem zV6 (a:Int) (h0:0<=a) (h1:a<=18446744073709551615) (w:World) :
  Calls prog 153 #[.int .u64 a] w fun e w'=>e=.returned (.int .u64 (a % 4294967296))/\w=w':=by
 go_enter func153,ntmps153
 go_wp2;go_ret;exact ⟨rfl,rfl⟩
theorem yA9 (a:Int) (h0:0<=a) (h1:a<=18446744073709551615) (w:World) :
  Calls prog 163 #[.int .u64 a] w fun e w'=>e=.returned (.tuple #[.int .u64 (a % 4294967296),.int .u64 (a / 4294967296)])/\w=w':=by
 go_enter func163,ntmps163
 go_wp2;go_ret2;exact ⟨rfl,rfl⟩
theorem add_any (a b c:Int) (a0:0<=a) (a1:a<=18446744073709551615) (b0:0<=b) (b1:b<=18446744073709551615) (c0:0<=c) (c1:c<=18446744073709551615) (w:World) :
  Calls prog 149 #[.int .u64 a,.int .u64 b,.int .u64 c] w fun e w' =>
   ∃ s o,e=.returned (.tuple #[.int .u64 s,.int .u64 o])/\qB1 a b c s o/\w=w':=by
 go_enter func149,ntmps149
 go_wp2_with (first | (go_at_call 153;refine (zV6 _ (by omega) (by omega) _).mono ?_;rintro e w' ⟨rfl,rfl⟩)|(go_at_call 163;refine (yA9 _ (by omega) (by omega) _).mono ?_;rintro e w' ⟨rfl,rfl⟩))
 go_ret2;exact ⟨_,_,rfl,by unfold qB1;omega,rfl⟩
theorem sub_any (a b c:Int) (a0:0<=a) (a1:a<=18446744073709551615) (b0:0<=b) (b1:b<=18446744073709551615) (c0:0<=c) (c1:c<=18446744073709551615) (w:World) :
  Calls prog 159 #[.int .u64 a,.int .u64 b,.int .u64 c] w fun e w' =>
   ∃ s o,e=.returned (.tuple #[.int .u64 s,.int .u64 o])/\qR0 a b c s o/\w=w':=by
 go_enter func159,ntmps159
 go_wp2_with (first | (go_at_call 153;refine (zV6 _ (by omega) (by omega) _).mono ?_;rintro e w' ⟨rfl,rfl⟩))
 go_loop [8,10] (fun x y => ∃ o:Int,0<=o/\o<=2/\a % 4294967296+4294967296*o<b % 4294967296+c % 4294967296+4294967296/\x=.int .u64 (a % 4294967296+4294967296*o)/\y=.int .u64 o) (fun x _=>(b % 4294967296+c % 4294967296-intOf x).toNat)
 case atStart=>exact ⟨0,by omega,by omega,by omega,by simp,rfl⟩
 case round =>
  obtain ⟨o,o0,o1,ho,rfl,rfl⟩:=hrel;by_cases hlt:a % 4294967296+4294967296*o<b % 4294967296+c % 4294967296
  ·go_wp2
   go_round
   case rel=>exact ⟨o+1,by omega,by omega,by omega,by congr 1;omega,rfl⟩
   case measure=>simp [intOf];omega
  ·go_wp2;go_ret2;exact ⟨_,_,rfl,by unfold qR0;omega,rfl⟩
theorem mul_any (a b c d:Int) (a0:0<=a) (a1:a<=18446744073709551615) (b0:0<=b) (b1:b<=18446744073709551615) (c0:0<=c) (c1:c<=18446744073709551615) (d0:0<=d) (d1:d<=18446744073709551615) (w:World) :
  Calls prog 150 #[.int .u64 a,.int .u64 b,.int .u64 c,.int .u64 d] w fun e w' =>
   ∃ s o,e=.returned (.tuple #[.int .u64 s,.int .u64 o])/\qK2 a b c d s o/\w=w':=by
 have hm:=mul_bd (a % 4294967296) (b % 4294967296) (by omega) (by omega) (by omega) (by omega)
 go_enter func150,ntmps150
 go_wp2_with (first | (go_at_call 153;refine (zV6 _ (by omega) (by omega) _).mono ?_;rintro e w' ⟨rfl,rfl⟩)|(go_at_call 163;refine (yA9 _ (by omega) (by omega) _).mono ?_;rintro e w' ⟨rfl,rfl⟩))
 go_ret2;exact ⟨_,_,rfl,by unfold qK2;omega,rfl⟩
def qB2 (A:Int) (n:Nat):Prop:=A<2^n/\(n=0\/2^(n-1)<=A)
def zY4 (A:Int) (n:Nat):Prop:=n<=32/\A % 2^n=0/\(n=32\/A / 2^n % 2=1)
theorem qE6 (n:Nat):(0:Int)<2^n:=Int.pow_pos (by omega)
theorem mod_up {A:Int} {k:Nat} (h:A % 2^k=0) (h2:A / 2^k % 2=0):A % 2^(k+1)=0:=by
 obtain ⟨q,rfl⟩:=Int.dvd_of_emod_eq_zero h;rw [Int.mul_ediv_cancel_left _ (by have:=qE6 k;omega)] at h2;obtain ⟨r,rfl⟩:∃ r,q=2*r:=⟨q / 2,by omega⟩;apply Int.emod_eq_zero_of_dvd;exact ⟨r,by rw [Int.pow_succ,Int.mul_assoc]⟩
theorem bits_any (a:Int) (a0:0<=a) (a1:a<=18446744073709551615) (w:World) :
    Calls prog 130 #[.int .u64 a] w fun e w' => ∃ n:Nat,e=.returned (.int .i64 n)/\n<=32/\qB2 (a % 4294967296) n/\w=w':=by
  go_enter func130,ntmps130
  go_wp2_with (first | (go_at_call 153;refine (zV6 _ (by omega) (by omega) _).mono ?_;rintro e w' ⟨rfl,rfl⟩))
  go_loop [6] (fun vk => ∃ k:Nat,k<=32/\(k=0\/2^(k-1)<=a % 4294967296)/\vk=.int .i64 (k:Int)) (fun vk=>32-(intOf vk).toNat)
  case atStart=>exact ⟨0,by omega,by omega,rfl⟩
  case round =>
    obtain ⟨k,hk,hb,rfl⟩:=hrel;have HB:=hQ9 hb;clear hb;by_cases hlt:k<32
    · by_cases hz:(a % 4294967296 / 2^k == 0)=true
      · go_wp2;go_ret;exact ⟨k,rfl,hk,⟨by have:=Int.lt_mul_ediv_self_add (x:=a % 4294967296) (qE6 k);rw [beq_iff_eq] at hz;rw [hz] at this;omega,HB.out⟩,rfl⟩
      · have hz':(a % 4294967296 / 2^k == 0)=false:=by simpa using hz
        clear hz;go_wp2
        go_round
        case rel =>
          refine ⟨k+1,by omega,Or.inr ?_,by go_num⟩;have h1:¬ a % 4294967296 / 2^k=0:=by simpa using hz'
          have h2:0<=a % 4294967296 / 2^k:=Int.ediv_nonneg (by omega) (by have:=qE6 k;omega);have h3:1<=a % 4294967296 / 2^k:=by omega
          have h4:=(Int.le_ediv_iff_mul_le (qE6 k)).1 h3;simpa using h4
        case measure=>simp [intOf];omega
    · go_wp2;go_ret;obtain rfl:k=32:=by omega
      exact ⟨32, rfl, by omega, ⟨by have e : (2 : Int) ^ 32 = 4294967296 := by decide
                                    rw [e];omega,HB.out⟩,rfl⟩
theorem zeros_any (a:Int) (a0:0<=a) (a1:a<=18446744073709551615) (w:World) :
  Calls prog 158 #[.int .u64 a] w fun e w' => ∃ n:Nat,e=.returned (.int .i64 n)/\n<=32/\zY4 (a % 4294967296) n/\w=w':=by
 go_enter func158,ntmps158
 go_wp2_with (first | (go_at_call 153;refine (zV6 _ (by omega) (by omega) _).mono ?_;rintro e w' ⟨rfl,rfl⟩))
 go_loop [6] (fun vk => ∃ k:Nat,k<=32/\(a % 4294967296 % 2^k=0)/\vk=.int .i64 (k:Int)) (fun vk=>32-(intOf vk).toNat)
 case atStart=>exact ⟨0,by omega,by omega,rfl⟩
 case round =>
  obtain ⟨k,hk,hb,rfl⟩:=hrel;have HB:=hQ9 hb;clear hb;by_cases hlt:k<32
  ·have hand:bits BinOp.and IntKind.u64 (a % 4294967296 / 2^k) 1=a % 4294967296 / 2^k % 2:=by
    have h0:0<=a % 4294967296 / 2^k:=Int.ediv_nonneg (by omega) (by have:=qE6 k;omega);have h1:a % 4294967296 / 2^k<=a % 4294967296:=Int.ediv_le_self _ (by omega);exact and_one_u64 _ (by omega) (by omega)
   by_cases hz:a % 4294967296 / 2^k % 2=1
   ·have hz':(bits BinOp.and IntKind.u64 (a % 4294967296 / 2^k) 1 == 1)=true:=by rw [hand,hz];rfl
    have HZ:=hQ9 hz;clear hz hand;go_wp2;go_ret;exact ⟨k,rfl,hk,⟨hk,HB.out,Or.inr HZ.out⟩,rfl⟩
   ·have hz':(bits BinOp.and IntKind.u64 (a % 4294967296 / 2^k) 1 == 1)=false:=by rw [hand];simpa using hz
    have HZ:=hQ9 hz;clear hz hand;go_wp2
    go_round
    case rel=>exact ⟨k+1,by omega,mod_up HB.out (by have:=HZ.out;omega),by go_num⟩
    case measure=>simp [intOf];omega
  ·go_wp2;go_ret;obtain rfl:k=32:=by omega
   exact ⟨32,rfl,by omega,⟨by omega,HB.out,Or.inl rfl⟩,rfl⟩
end limb
namespace nat
open Go.RowKit num mem
set_option maxRecDepth 100000
theorem qE7 (v:Value) (l:List Nat) (x:Nat) (w:World) (h:IsS w .u64 v l) (hlt:Lt 4294967296 l) (hx:x=val 4294967296 l) :
  Calls prog 67 #[v] w (RetTr (digs 4294967296 x) v w):=by
 rw [hx,<- zN (by omega) hlt];exact yV4 v l w h
def AtD (l:List Nat) (i d:Nat):Prop:=l[i]?=some d\/l.length<=i/\d=0
theorem AtD.of (l:List Nat) (i:Nat):∃ d,AtD l i d:=by
 by_cases h:i<l.length
 ·exact ⟨_,.inl (zA3 h)⟩
 ·exact ⟨0,.inr ⟨by omega,rfl⟩⟩
theorem AtD.lt {B:Nat} {l:List Nat} {i d:Nat} (h:AtD l i d) (hl:Lt B l) (hB:0<B):d<B:=by
 rcases h with h | ⟨_,rfl⟩
 ·exact hl.at h
 ·exact hB
theorem qR1 (v:Value) (l:List Nat) (iI:Int) (i d:Nat) (w:World) (hi:iI=(i:Int)) (h:IsS w .u64 v l) (hd:AtD l i d) :
  Calls prog 160 #[v,.int .i64 iI] w fun e w'=>e=.returned (.int .u64 (d:Int))/\w'=w:=by
 subst hi;obtain ⟨A,c,rfl,hc,hm,hr⟩:=h;unfold maxLen at hm;rcases hd with hd | ⟨hd,rfl⟩
 ·have hil:i<l.length:=(zA4.1 hd).1;obtain ⟨ad,rfl,hcell⟩:=hr i d hd;clear hd
  go_enter func160,ntmps160
  go_wp2;go_ret;exact ⟨rfl,rfl⟩
 ·go_enter func160,ntmps160
  go_wp2;go_ret;exact ⟨rfl,rfl⟩
theorem yX0 (a b:Int) (x y:Nat) (t:Int) (w:World) (ha:a=(x:Int)) (hb:b=(y:Int)) (ht:t=ord x y) :
  Calls prog 136 #[.int .i64 a,.int .i64 b] w fun e w'=>e=.returned (.int .i64 t)/\w'=w:=by
 subst ha;subst hb;have z1:((x:Int) != (x:Int))=false:=by simp
 have z2:((y:Int) != (y:Int))=false:=by simp
 rcases Nat.lt_trichotomy x y with h | h | h
 ·rw [zS4 h] at ht;subst ht
  go_enter func136,ntmps136
  go_wp2;go_ret;exact ⟨rfl,rfl⟩
 ·subst h;rw [qE1] at ht;subst ht
  go_enter func136,ntmps136
  go_wp2;go_ret;exact ⟨rfl,rfl⟩
 ·rw [zU0 h] at ht;subst ht
  go_enter func136,ntmps136
  go_wp2;go_ret;exact ⟨rfl,rfl⟩
theorem yX1 (a b:Int) (x y:Nat) (t:Int) (w:World) (ha:a=(x:Int)) (hb:b=(y:Int)) (ht:t=ord x y) :
  Calls prog 137 #[.int .u64 a,.int .u64 b] w fun e w'=>e=.returned (.int .i64 t)/\w'=w:=by
 subst ha;subst hb;have z1:((x:Int) != (x:Int))=false:=by simp
 have z2:((y:Int) != (y:Int))=false:=by simp
 rcases Nat.lt_trichotomy x y with h | h | h
 ·rw [zS4 h] at ht;subst ht
  go_enter func137,ntmps137
  go_wp2;go_ret;exact ⟨rfl,rfl⟩
 ·subst h;rw [qE1] at ht;subst ht
  go_enter func137,ntmps137
  go_wp2;go_ret;exact ⟨rfl,rfl⟩
 ·rw [zU0 h] at ht;subst ht
  go_enter func137,ntmps137
  go_wp2;go_ret;exact ⟨rfl,rfl⟩
theorem qE8 (nI:Int) (n:Nat) (w:World) (hn:nI=(n:Int)) (n1:nI<=18446744073709551615) :
  Calls prog 36 #[.int .u64 nI] w (zD7 .u64 (digs 4294967296 n) w):=by
 subst hn
 go_enter func36,ntmps36;go_wp2_with fail
 refine (qE7 _ [n % 4294967296,n / 4294967296] n _ (yV3 w w.heap.size _ .u64 (by omega) (by omega) (zB3 _)).isS (Lt.cons (by omega) (Lt.cons (by omega) (Lt.nil _))) (by simp [val];omega)).mono ?_;rintro e w' ⟨v',rfl,hv,hf,rfl⟩;go_wp2;go_ret;exact ⟨_,rfl,hv,hf _ (qK1 (zB3 _)),zC9 (zB3 _) _⟩
set_option maxRecDepth 100000
def CR (x y k:Nat) (t:Int):Prop:=(t=0->(digs 4294967296 x).length=(digs 4294967296 y).length/\(digs 4294967296 x).drop k=(digs 4294967296 y).drop k)/\(¬ t=0->t=ord x y)
theorem CR.start (x y:Nat):CR x y (digs 4294967296 x).length (ord (digs 4294967296 x).length (digs 4294967296 y).length):=by
 unfold CR
 constructor
 ·intro h;have e:=qJ6.1 h;exact ⟨e,by rw [List.drop_length,List.drop_of_length_le (by omega)]⟩
 ·intro h;rcases Nat.lt_trichotomy (digs 4294967296 x).length (digs 4294967296 y).length with h1 | h1 | h1
  ·rw [zS4 h1,zS4 (qJ7 (by omega) h1)]
  ·exact absurd (qJ6.2 h1) h
  ·rw [zU0 h1,zU0 (qJ7 (by omega) h1)]
theorem CR.step {x y j d e:Nat} (h:CR x y (j+1) 0) (hd:(digs 4294967296 x)[j]?=some d) (he:(digs 4294967296 y)[j]?=some e):CR x y j (ord d e):=by
 unfold CR at h |-;obtain ⟨h1,h2⟩:=h.1 rfl
 constructor
 ·intro h3;have e3:=qJ6.1 h3;subst e3;exact ⟨h1,qZ9 hd he h2⟩
 ·intro h3;rcases Nat.lt_trichotomy d e with h4 | h4 | h4
  ·have:=qJ8 (zF8 (by omega) x) (zF8 (by omega) y) h1 hd he h2 h4
   rw [zF (by omega),zF (by omega)] at this;rw [zS4 h4,zS4 this]
  ·exact absurd (qJ6.2 h4) h3
  ·have:=qJ8 (zF8 (by omega) y) (zF8 (by omega) x) h1.symm he hd h2.symm h4
   rw [zF (by omega),zF (by omega)] at this;rw [zU0 h4,zU0 this]
theorem CR.done {x y k:Nat} {t:Int} (h:CR x y k t) (hk:k=0 \/ ¬ t=0):t=ord x y:=by
 unfold CR at h;by_cases h0:t=0
 ·obtain ⟨_,h2⟩:=h.1 h0;rcases hk with rfl|hk
  ·rw [List.drop_zero,List.drop_zero] at h2;have e:=congrArg (val 4294967296) h2;rw [zF (by omega),zF (by omega)] at e;rw [h0,e,qE1]
  ·exact absurd h0 hk
 ·exact h.2 h0
theorem zU2 (v u:Value) (x y:Nat) (t:Int) (w:World) (h:IsS w .u64 v (digs 4294967296 x)) (h':IsS w .u64 u (digs 4294967296 y)) (ht:t=ord x y) :
  Calls prog 121 #[v,u] w (zE1 (.int .i64 t) w):=by
 have HT:=hQ9 ht;clear ht;have lt1:=zF8 (B:=4294967296) (by omega) x;have lt2:=zF8 (B:=4294967296) (by omega) y;obtain ⟨A,c,rfl,hc,hm,hr⟩:=h;obtain ⟨A',c',rfl,hc',hmm,hr'⟩:=h';unfold maxLen at hm hmm;obtain ⟨t0,ht0⟩:∃ t0,t0=ord (digs 4294967296 x).length (digs 4294967296 y).length:=⟨_,rfl⟩;have hcr:=CR.start x y;rw [<- ht0] at hcr;have HT0:=hQ9 ht0;have htb:=ord_bd (digs 4294967296 x).length (digs 4294967296 y).length;rw [<- ht0] at htb;clear ht0
 go_enter func121,ntmps121;go_wp2_with fail
 refine (yX0 _ _ _ _ t0 _ rfl rfl HT0.out).mono ?_;rintro e w' ⟨rfl,rfl⟩;go_wp2
 go_loopw [5,6] (fun vo vi wr => ∃ (k:Nat) (q:Int),k<=(digs 4294967296 x).length/\CR x y k q/\Below w'.heap.size w' wr/\vo=.int .i64 q/\vi=.int .i64 ((k:Int)-1)) (fun _ vi _=>(intOf vi+1).toNat)
 case atStart=>exact ⟨_,t0,zB3 _,hcr,Below.refl _ _,rfl,rfl⟩
 case round =>
  clear hcr;obtain ⟨k,q,hk,hC,hb,rfl,rfl⟩:=hrel;by_cases hq:q=0
  ·subst hq;by_cases hlt:0<k
   ·obtain ⟨j,rfl⟩:∃ j,k=j+1:=⟨k-1,by omega⟩;have hlen:(digs 4294967296 x).length<=(digs 4294967296 y).length:=by have:=(hC.1 rfl).1;omega
    obtain ⟨ad,d,rfl,hd,hcell⟩:=(hr.bQ hb).at_ (i:=j) (by omega);obtain ⟨ad',e,rfl,he,hcell'⟩:=(hr'.bQ hb).at_ (i:=j) (by omega);have HC:=hC.step hd he;obtain ⟨t1,ht1⟩:∃ t1,t1=ord d e:=⟨_,rfl⟩;rw [<- ht1] at HC;have HT1:=hQ9 ht1;clear hd he ht1 hC;go_wp2
    go_quiet ((go_at_call 137;exact Calls.quiet_of_same (yX1 _ _ d e t1 _ rfl rfl HT1.out)))
    go_wp2;go_roundw;case rel=>exact ⟨j,t1,by omega,HC,zP0 hb _,rfl,by go_num⟩
    case measure=>simp [intOf]
   ·have HE:Hid ((0:Int)=t):=by have:=hC.done (.inl (by omega));show _=_;rw [this,HT.out]
    go_wp2;go_ret;exact ⟨by rw [<- HE.out];rfl,hb⟩
  ·have HE:Hid (q=t):=by have:=hC.done (.inr hq);show _=_;rw [this,HT.out]
   have hqb:(q == 0)=false:=by rw [beq_eq_false_iff_ne];exact hq
   clear hq;by_cases hlt:0<k
   ·go_wp2;go_ret;exact ⟨by rw [<- HE.out];rfl,hb⟩
   ·go_wp2;go_ret;exact ⟨by rw [<- HE.out];rfl,hb⟩
end nat
namespace nat
open Go.RowKit num mem limb
set_option maxRecDepth 100000
theorem qE9 (n:Nat):((2^n:Nat):Int)=(2:Int)^n:=by simp
theorem qF0 (n:Nat):(4294967296:Nat)^n=2^(32*n):=by rw [Nat.pow_mul]
theorem qB2.nat {d n:Nat} (hd:d<4294967296) (h:qB2 ((d:Int) % 4294967296) n):d<2^n/\(n=0\/2^(n-1)<=d):=by
 unfold qB2 at h;rw [show (d:Int) % 4294967296=(d:Int) from by omega,<- qE9,<- qE9] at h;omega
theorem yX2 (k:Nat) {y:Nat} (hy:0<y):tz (2^k*y)=k+tz y:=by
  induction k with
  | zero=>simp
  | succ k ih =>
    have e:2^(k+1)*y=2*(2^k*y):=by rw [bY1,bY0 (2^k) 2,bX8]
    have hp:0<2^k*y:=Nat.mul_pos (Nat.pow_pos (by omega)) hy;rw [e,qE3 (by omega) (by omega),Nat.mul_div_cancel_left _ (by omega),ih];omega
theorem zY4.nat {d z:Nat} (hd:d<4294967296) (hd0:d≠0) (h:zY4 ((d:Int) % 4294967296) z):z<32/\d % 2^z=0/\d / 2^z % 2=1:=by
 unfold zY4 at h;rw [show (d:Int) % 4294967296=(d:Int) from by omega,<- qE9] at h;obtain ⟨h1,h2,h3⟩:=h;have h2':d % 2^z=0:=by exact_mod_cast h2
 have hz:z≠32:=by
  rintro rfl;rw [show (2:Nat)^32=4294967296 from by decide] at h2';omega
 refine ⟨by omega,h2',?_⟩;rcases h3 with h3 | h3
 ·exact absurd h3 hz
 ·have h4:((d / 2^z % 2:Nat):Int)=1:=by rw [Int.natCast_emod,Int.natCast_ediv];exact h3
  omega
theorem yX3 {x k d z:Nat} (h0:val 4294967296 ((digs 4294967296 x).take k)=0) (hd:(digs 4294967296 x)[k]?=some d) (hd0:d≠0) (h:zY4 ((d:Int) % 4294967296) z):tz x=k*32+z:=by
 have hd1:=(zF8 (by omega) x).at hd;obtain ⟨h1,h2,h3⟩:=zY4.nat hd1 hd0 h;have hk:k<(digs 4294967296 x).length:=(zA4.1 hd).1;obtain ⟨r,hr⟩:∃ r,r=val 4294967296 ((digs 4294967296 x).drop (k+1)):=⟨_,rfl⟩
 have e:x=2^(32*k)*(d+4294967296*r):=by
  have e1:=zF (B:=4294967296) (by omega) x;rw [<- bX k (digs 4294967296 x),zL6,h0,qE2 hd,<- hr,show ((digs 4294967296 x).take k).length=k from by simp;omega,qF0] at e1;omega
 obtain ⟨j,hj⟩:∃ j,32=z+(j+1):=⟨31-z,by omega⟩;have e32:(4294967296:Nat)=2^z*2^(j+1):=by rw [<- Nat.pow_add,<- hj]
 have et:tz (d+4294967296*r)=z:=by
  rw [e32,bX8];refine tz_of ?_ ?_
  ·rw [Nat.add_mul_mod_self_left];exact h2
  ·rw [Nat.add_mul_div_left _ _ (Nat.pow_pos (by omega)),bY1,bY0 (2^j) 2,bX8];omega
 rw [e,yX2 _ (by omega),et];omega
theorem zeros_any (v:Value) (x b:Nat) (w:World) (h:IsS w .u64 v (digs 4294967296 x)) (hl:(digs 4294967296 x).length<=1000000) (hb:b=tz x) :
  Calls prog 139 #[v] w fun e w'=>e=.returned (.int .i64 (b:Int))/\w=w':=by
 have hlt:=zF8 (B:=4294967296) (by omega) x;have HB:=hQ9 hb;clear hb;obtain ⟨A,c,rfl,hc,hm,hr⟩:=h
 go_enter func139,ntmps139
 go_wp2
 go_loop [7] (fun vn => ∃ n:Nat,n<=(digs 4294967296 x).length/\Hid (val 4294967296 ((digs 4294967296 x).take n)=0)/\vn=.int .i64 (n:Int)) (fun vn=>(digs 4294967296 x).length-(intOf vn).toNat)
 case atStart=>exact ⟨0,Nat.zero_le _,by show _=_;simp [val],rfl⟩
 case round =>
  obtain ⟨k,hk,hV,rfl⟩:=hrel;by_cases hp:k<(digs 4294967296 x).length
  ·obtain ⟨ad,d,rfl,hd,hcell⟩:=hr.at_ hp;have hd1:=hlt.at hd;by_cases hd0:d=0
   ·subst hd0;have HN:Hid (val 4294967296 ((digs 4294967296 x).take (k+1))=0):=by show _=_;rw [zJ7 hd,hV.out];rfl
    clear hd;go_wp2
    go_round
    case rel=>exact ⟨k+1,by omega,HN,by go_num⟩
    case measure=>simp [intOf];omega
   ·have hz:((d:Int) == 0)=false:=by rw [beq_eq_false_iff_ne];omega
    have hz2:((d:Int) != 0)=true:=by rw [bne_iff_ne];omega
    have HT:Hid (∀ z,zY4 ((d:Int) % 4294967296) z->tz x=k*32+z):=fun z hz=>yX3 hV.out hd hd0 hz;clear hd hd0
    go_wp2_with fail
    refine (limb.zeros_any _ (by omega) (by omega) _).mono ?_;rintro e w' ⟨n,rfl,hn,hs,rfl⟩;have HS:=hQ9 hs;clear hs;go_wp2;go_ret;refine ⟨?_,rfl⟩;have e1:=HT.out n HS.out;have e2:=HB.out;show Ending.returned (.int .i64 _)=.returned (.int .i64 _)
    rw [show (k:Int)*32+(n:Int)=(b:Int) from by omega]
  ·have HZ:Hid (b=0):=by
    have h1:=hV.out;rw [zA7 (by omega),zF (by omega)] at h1
    have:=HB.out;rw [h1,tz_zero] at this;exact this
   go_wp2;go_ret;exact ⟨by rw [HZ.out];rfl,rfl⟩
set_option maxRecDepth 100000
theorem yB (B:Nat):zE5 B (.slice none 0 0):=fun ad n c e=>by injection e with e _ _;injection e
theorem qR2 {o:List Nat} {k s:Nat} (hk:k<o.length):(o.set k s).take (k+1)=o.take k ++ [s]:=by
 rw [zY3 (l:=o.set k s) (d:=s) (bQ3 hk),List.take_set_of_le (zB3 _)]
theorem yX4 (v u:Value) (x y:Nat) (w:World) (h:IsS w .u64 v (digs 4294967296 x)) (h':IsS w .u64 u (digs 4294967296 y)) (hxy:x<y) :
  Calls prog 141 #[v,u] w (zO3 .u64 [] 6 w):=by
 have HO:=hQ9 (zS4 hxy).symm;clear hxy
 go_enter func141,ntmps141;go_wp2_with fail
 refine (zU2 _ _ _ _ (-1) _ h h' HO.out).mono ?_;rintro e w' ⟨rfl,hb⟩;go_wp2;go_ret2;exact ⟨_,rfl,qJ9 _ _,yB _,hb⟩
theorem qF1 (v u:Value) (x y:Nat) (w:World) (h:IsS w .u64 v (digs 4294967296 x)) (h':IsS w .u64 u (digs 4294967296 y)) (hl:(digs 4294967296 x).length<=1000000) (hxy:y<=x) (z:Nat) (hz:z=x-y) :
  Calls prog 141 #[v,u] w (zO3 .u64 (digs 4294967296 z) 0 w):=by
 obtain ⟨t,ht⟩:∃ t,t=ord x y:=⟨_,rfl⟩;have ht0:¬ t<0:=by rw [ht,qQ6];omega
 have HO:=hQ9 ht;have HZ:=hQ9 hz;have HXY:=hQ9 hxy;clear ht hz hxy;have lt1:=zF8 (B:=4294967296) (by omega) x;have lt2:=zF8 (B:=4294967296) (by omega) y;have hv:=h;obtain ⟨A,c,rfl,hc,hm,hr⟩:=h
 go_enter func141,ntmps141;go_wp2_with fail
 refine (zU2 _ _ _ _ t _ hv h' HO.out).mono ?_;rintro e w1 ⟨rfl,hb1⟩;have hsz1:=hb1.size
 go_wp2_with (at_make;refine zR4 rfl _ _ rfl zK1 (digs 4294967296 x).length rfl rfl rfl rfl (by omega) (zB3 _) ?_;intro w2 hown2 hb2 hz2)
 go_loopw [7,19] (fun vc vi wr => ∃ (k cy:Nat) (o:List Nat),k<=(digs 4294967296 x).length/\cy<=1/\o.length<=(digs 4294967296 x).length/\(digs 4294967296 x).length<=o.length/\SB 4294967296 (digs 4294967296 x) (digs 4294967296 y) k cy (o.take k)/\Own wr w1.heap.size 75 .u64 (.slice (some ⟨w1.heap.size,0,none⟩) (digs 4294967296 x).length (digs 4294967296 x).length) o/\Below w1.heap.size w1 wr/\vc=.int .u64 (cy:Int)/\vi=.int .i64 (k:Int)) (fun _ vi _=>(digs 4294967296 x).length-(intOf vi).toNat)
 case atStart=>exact ⟨0,0,zB (digs 4294967296 x).length 0,by omega,by omega,by simp,by simp,SB.start _ _ _,hown2,hb2,rfl,rfl⟩
 case round =>
  clear hown2 hb2 hz2;obtain ⟨k,cy,o,hk,hcy,ho1,ho2,hS,hown,hb,rfl,rfl⟩:=hrel;have hsz:=hb.size;by_cases hp:k<(digs 4294967296 x).length
  ·obtain ⟨ad,d,rfl,hd,hcell⟩:=((hr.bQ hb1).bQ hb).at_ hp;have hd1:=lt1.at hd;obtain ⟨e,he⟩:=AtD.of (digs 4294967296 y) k;have he1:=he.lt lt2 (by omega);obtain ⟨a',ha'⟩:∃ a',o[k]?=some a':=⟨_,zA3 (by omega)⟩;have hc':=hown.cellAt ha';have hf':=hown.frozenAt k
   have HS:Hid (∀ s c',s<4294967296->s+e+cy=d+4294967296*c'->SB 4294967296 (digs 4294967296 x) (digs 4294967296 y) (k+1) c' ((o.set k s).take (k+1))):=by
    intro s c' hs heq;rw [qR2 (by omega)];exact hS.step hd he hs heq
   have HE:=hQ9 he;clear hd ha' he hS;go_wp2_with fail
   refine (qR1 _ _ _ k e _ rfl ((h'.bQ hb1).bQ hb) HE.out).mono ?_;rintro e' w3 ⟨rfl,rfl⟩;go_wp2_with fail
   refine (limb.sub_any _ _ _ (by omega) (by omega) (by omega) (by omega) (by omega) (by omega) _).mono ?_;rintro e' w4 ⟨s,c2,rfl,H,rfl⟩;unfold qR0 at H;obtain ⟨s0,s1,c0,c1,heq⟩:=H;obtain ⟨s,rfl⟩:=Int.eq_ofNat_of_zero_le s0;obtain ⟨c2,rfl⟩:=Int.eq_ofNat_of_zero_le c0;have HQ:Hid (s+e+cy=d+4294967296*c2):=by show _=_;omega
   have c3:c2<=1:=by omega
   clear heq;go_wp2;go_roundw;case rel=>exact ⟨k+1,c2,o.set k s,by omega,c3,by simpa using ho1,by simpa using ho2,HS.out s c2 (by omega) HQ.out,hown.stored k s,hb.setCell (zB3 _) _,rfl,by go_num⟩
   case measure=>simp [intOf];omega
  ·obtain rfl:k=(digs 4294967296 x).length:=by omega
   have hml:=zG1 (B:=4294967296) (by omega) HXY.out;rw [zA7 ho1] at hS;obtain ⟨g1,g2⟩:=hS.done hml (by rw [zF (by omega),zF (by omega)];exact HXY.out);rw [zF (by omega),zF (by omega)] at g2;have HV:Hid (z=val 4294967296 o):=by show _=_;rw [g2];exact HZ.out
   clear g2 hS;go_wp2_with fail
   refine (qE7 _ o z _ hown.isS g1 HV.out).mono ?_;rintro e w' ⟨v',rfl,hv',hf,rfl⟩;go_wp2;go_ret2;exact ⟨_,rfl,hv',(hf _ (qK1 (zB3 _))).mono hsz1,hb1.trans (hb.mono hsz1)⟩
def RA (l:List Nat) (n k up:Nat) (o:List Nat):Prop:=Lt 4294967296 o/\o.length=k/\val 4294967296 o+4294967296^k*up=val 4294967296 (l.take k)*2^n
theorem RA.start (l:List Nat) (n:Nat):RA l n 0 0 []:=by unfold RA;exact ⟨Lt.nil _,rfl,by simp [val]⟩
theorem RA.step {l o:List Nat} {n k up d s c:Nat} (h:RA l n k up o) (hd:l[k]?=some d) (hs:s<4294967296) (he:s+4294967296*c=d*2^n+up):RA l n (k+1) c (o ++ [s]):=by
 unfold RA at h |-;obtain ⟨h1,h2,h3⟩:=h;refine ⟨h1.snoc hs,by simp [h2],?_⟩;rw [zT9,h2,zJ7 hd,Nat.add_mul,<- h3,bY1,bX8,bX8,Nat.add_assoc,<- Nat.mul_add,he,Nat.mul_add];omega
theorem RA.done {l o:List Nat} {n up:Nat} (h:RA l n l.length up o) (hu:up<4294967296):Lt 4294967296 (o ++ [up])/\(o ++ [up]).length=l.length+1/\val 4294967296 (o ++ [up])=val 4294967296 l*2^n:=by
 unfold RA at h;obtain ⟨h1,h2,h3⟩:=h;rw [bX1] at h3;exact ⟨h1.snoc hu,by simp [h2],by rw [zT9,h2];exact h3⟩
def RetRa (x n len:Nat) (w:World) (e:Ending) (w':World):Prop:=∃ v r,e=.returned v/\IsS w' .u64 v r/\Lt 4294967296 r/\r.length=len+1/\val 4294967296 r=x*2^n/\zE5 w.heap.size v/\Below w.heap.size w w'
theorem yB0 (v:Value) (x:Nat) (nI:Int) (n:Nat) (w:World) (hn:nI=(n:Int)) (h:IsS w .u64 v (digs 4294967296 x)) (hl:(digs 4294967296 x).length<=1000000) (hn31:n<=31) :
  Calls prog 155 #[v,.int .i64 nI] w (RetRa x n (digs 4294967296 x).length w):=by
 subst hn;have lt1:=zF8 (B:=4294967296) (by omega) x;obtain ⟨p,hp⟩:∃ p,p=2^n:=⟨_,rfl⟩;have hpb:p<=2147483648:=by rw [hp];exact bX9 (j:=31) (by omega) hn31
 have HP:=hQ9 hp
 have hw:IntKind.u64.wrap ((2:Int)^n)=(p:Int):=by
  rw [<- qE9,<- hp,IntKind.wrap_u64];omega
 clear hp;obtain ⟨A,c,rfl,hc,hm,hr⟩:=h
 go_enter func155,ntmps155
 go_wp2_with (at_make;refine zR4 rfl _ _ rfl zK1 ((digs 4294967296 x).length+1) rfl rfl (by omega) (by omega) (by omega) (zB3 _) ?_;intro w2 hown2 hb2 hz2)
 go_loopw [6,15] (fun vc vi wr => ∃ (k cy:Nat) (o:List Nat),k<=(digs 4294967296 x).length/\cy<4294967296/\o.length<=(digs 4294967296 x).length+1/\(digs 4294967296 x).length+1<=o.length/\RA (digs 4294967296 x) n k cy (o.take k)/\Own wr w.heap.size 75 .u64 (.slice (some ⟨w.heap.size,0,none⟩) ((digs 4294967296 x).length+1) ((digs 4294967296 x).length+1)) o/\Below w.heap.size w wr/\vc=.int .u64 (cy:Int)/\vi=.int .i64 (k:Int)) (fun _ vi _=>(digs 4294967296 x).length-(intOf vi).toNat)
 case atStart=>exact ⟨0,0,zB ((digs 4294967296 x).length+1) 0,by omega,by omega,by simp,by simp,RA.start _ _,hown2,hb2,rfl,rfl⟩
 case round =>
  clear hown2 hb2 hz2;obtain ⟨k,cy,o,hk,hcy,ho1,ho2,hS,hown,hb,rfl,rfl⟩:=hrel;have hsz:=hb.size;by_cases hp:k<(digs 4294967296 x).length
  ·obtain ⟨ad,d,rfl,hd,hcell⟩:=(hr.bQ hb).at_ hp;have hd1:=lt1.at hd;obtain ⟨a',ha'⟩:∃ a',o[k]?=some a':=⟨_,zA3 (by omega)⟩;have hc':=hown.cellAt ha';have hf':=hown.frozenAt k
   have HS:Hid (∀ s c',s<4294967296->s+4294967296*c'=d*2^n+cy->RA (digs 4294967296 x) n (k+1) c' ((o.set k s).take (k+1))):=by
    intro s c' hs heq;rw [qR2 (by omega)];exact hS.step hd hs heq
   have hpo:d*p<=4294967295*2147483648:=bY6 (by omega) hpb;clear hd ha' hS;go_wp2_with fail
   refine (limb.mul_any _ _ _ _ (by omega) (by omega) (by omega) (by omega) (by omega) (by omega) (by omega) (by omega) _).mono ?_;rintro e' w4 ⟨s,c2,rfl,H,rfl⟩;unfold qK2 at H;rw [show (d:Int) % 4294967296=(d:Int) from by omega,show (p:Int) % 4294967296=(p:Int) from by omega] at H;obtain ⟨s0,s1,c0,c1,heq⟩:=H;obtain ⟨s,rfl⟩:=Int.eq_ofNat_of_zero_le s0;obtain ⟨c2,rfl⟩:=Int.eq_ofNat_of_zero_le c0
   have HQ:Hid (s+4294967296*c2=d*2^n+cy):=by
    show _=_
    rw [<- HP.out];have e1:((d*p:Nat):Int)=(d:Int)*(p:Int):=by simp
    rw [<- e1] at heq;omega
   clear heq hpo;go_wp2;go_roundw;case rel=>exact ⟨k+1,c2,o.set k s,by omega,by omega,by simpa using ho1,by simpa using ho2,HS.out s c2 (by omega) HQ.out,hown.stored k s,hb.setCell (zB3 _) _,rfl,by go_num⟩
   case measure=>simp [intOf];omega
  ·obtain rfl:k=(digs 4294967296 x).length:=by omega
   obtain ⟨a',ha'⟩:∃ a',o[(digs 4294967296 x).length]?=some a':=⟨_,zA3 (by omega)⟩;have hc':=hown.cellAt ha';have hf':=hown.frozenAt (digs 4294967296 x).length;obtain ⟨g1,g2,g3⟩:=hS.done hcy;rw [<- qR2 (by omega),zA7 (by rw [zB2];exact ho1)] at g1 g2 g3;rw [zF (by omega)] at g3;have hown':=hown.stored (digs 4294967296 x).length cy;have hb':Below w.heap.size w (wr.setCell ⟨w.heap.size,(digs 4294967296 x).length,none⟩ (.int .u64 (cy:Int))):=hb.setCell (zB3 _) _;have G2:=hQ9 g2;have G3:=hQ9 g3;clear g2 g3 hS ha';go_wp2;go_ret;exact ⟨_,_,rfl,hown'.isS,g1,G2.out,G3.out,hown'.fresh,hb'⟩
end nat
namespace mem
open Go.RowKit
set_option maxRecDepth 100000
theorem Rd.drop {w:World} {A:Option Addr} {k:IntKind} {l:List Nat} (h:Rd w A k l) (n:Nat):Rd w (A.map (·.add n)) k (l.drop n):=by
 intro i d hd;rw [bW9] at hd;obtain ⟨ad,rfl,hc⟩:=h _ d hd;refine ⟨ad.add n,rfl,?_⟩
 have e:(ad.add n).add i=ad.add (n+i):=by
  unfold Addr.add;by_cases hn:n=0<;>by_cases hi:i=0<;>simp [hn,hi,Nat.add_assoc]
 rw [e];exact hc
theorem Rd.isDrop {w:World} {A:Option Addr} {k:IntKind} {l:List Nat} (h:Rd w A k l) {n c:Nat} (hc:l.length<=c) (hm:c<=maxLen) (hn:n<=l.length):IsS w k (.slice (A.map fun x=>x.add n) (l.length-n) (c-n)) (l.drop n) :=
 ⟨_,_,by rw [bX2],by rw [bX2];omega,by omega,h.drop n⟩
theorem qK3 {w:World} {A:Option Addr} {k:IntKind} {l:List Nat} {n m c:Nat} (hm:m=0) (hl:l.length<=n) (hc:c<=maxLen):IsS w k (.slice A m c) (l.drop n):=by
 rw [List.drop_of_length_le hl,hm];exact ⟨_,_,rfl,by simp,hc,Rd.nil⟩
theorem zE5.drop {B:Nat} {A:Option Addr} {n c:Nat} (h:zE5 B (.slice A n c)) (i m d:Nat):zE5 B (.slice (A.map fun x=>x.add i) m d):=by
 intro ad n' c' e;rcases A with _ | a
 ·injection e with e _ _;cases e
 ·injection e with e _ _;injection e with e;subst e;rw [block_add];exact h a _ _ rfl
theorem zE5.cut {B:Nat} {A:Option Addr} {n c:Nat} (h:zE5 B (.slice A n c)) (m d:Nat):zE5 B (.slice A m d):=by
 rintro ad n' c' e;injection e with e _ _;subst e;exact h ad _ _ rfl
end mem
namespace nat
open Go.RowKit num mem limb
set_option maxRecDepth 100000
theorem yX5 {P:Program} {w:World} {ops:Array Oper} {o:Oper} {a:Act} {K:Act->World->Prop} {Q:Exit->Act->World->Prop} {E:Prop} (hgd:o.guard=none) (s x:Operand) {t:TypeId}
  (ho:o.op=.call { callee:=.builtin .append,args:=#[s,x],argTypes:=#[t,t] })
  {base:Nat} {e:TypeId} {k:IntKind} (hT:SliceT P t e k) {v:Value} {l news:List Nat} (hs:a.eval s=v) (hown:Own w base e k v l) {A:Option Addr} {m c:Nat} (hx:a.eval x=.slice A m c) (hm:m=news.length) (hr:Rd w A k news)
  (hlen:l.length+m<=10000000000000) (hbase:base<=w.heap.size)
  (h:∀ v' w',Own w' base e k v' (l ++ news)->Below base w w'->K (a.put o.dst v') w') :
  if Region.wanted o (yielded ops a.tmps)=true then Oper.wp P o a w K Q else E:=by
 have hw:Region.wanted o (yielded ops a.tmps)=true:=by simp [Region.wanted,hgd]
 rw [if_pos hw];exact yA3 s x ho hT hs hown hx hm hr hlen hbase fun v' w' h1 h2=>h v' w' h1 ((Below.refl base w).grown h2 hbase hown.base_le)
theorem yX6 (n:Nat) (hn:n<=10000000000000) (w:World) :
  (Instr.makeSlice 40 (.int .i64 (n:Int)) (.int .i64 (n:Int))).run prog w=.ok (.slice (some ⟨w.heap.size,0,none⟩) n n) (w.alloc (.cells (madeCells #[.int .u64 0] n) 75)):=by
 obtain ⟨i,hi,hz,hs,hb⟩:=zK1.info;have h:=run_make (P:=prog) w 40 75 i (.int .u64 0) zK1.und hi hz .i64 .i64 n n (by omega) (Int.le_refl _) (by rw [hb];omega) (by omega);rw [hs,Nat.mul_one] at h;simp only [Int.toNat_natCast] at h;exact h
theorem shl_ok (v:Value) (x:Nat) (nI:Int) (n:Nat) (w:World) (hn:nI=(n:Int)) (h:IsS w .u64 v (digs 4294967296 x)) (hl:(digs 4294967296 x).length<=1000000) (hn2:n<=100000) (y:Nat) (hy:y=x*2^n) :
  Calls prog 161 #[v,.int .i64 nI] w (zO3 .u64 (digs 4294967296 y) 0 w):=by
 subst hn;obtain ⟨q,hq⟩:∃ q,q=n / 32:=⟨_,rfl⟩;obtain ⟨r,hr⟩:∃ r,r=n % 32:=⟨_,rfl⟩;have hmk:=yX6 q (by omega);have hn0:(0:Int)<=(n:Int):=by omega
 have hn3:(n:Int)<=100000:=by omega
 have e1:IntKind.i64.wrap ((n:Int) / 32)=(q:Int):=by rw [IntWalk.i64_in _ (by omega)];omega
 have e2:((n:Int)).tmod 32=(r:Int):=by rw [Int.tmod_eq_emod_of_nonneg (by omega)];omega
 have hqb:q<=3125:=by omega
 have hrb:r<=31:=by omega
 have HQ:=hQ9 hq;have HR:=hQ9 hr;have HY:=hQ9 hy
 have HV:Hid (∀ m:List Nat,val 4294967296 m=x*2^r->y=val 4294967296 (zB q 0 ++ m)):=by
  intro m hm;rw [zL6,qD9,hm,List.length_replicate,qF0,HY.out,bY5,Nat.mul_left_comm,<- Nat.pow_add]
  congr 2;omega
 have HL:Hid (∀ m:List Nat,Lt 4294967296 m->Lt 4294967296 (zB q 0 ++ m)):=fun m hm=>(Lt.rep (by omega) q).append hm;clear hq hr hy
 go_enter func161,ntmps161
 go_wp2
 go_region_law (first
  | (refine yX5 rfl (.tmp 14) (.tmp 18) rfl zK1 (by rfl) (base:=w.heap.size) (l:=zB q 0) (by first | exact yA2 w2 w.heap.size _ .u64 q hsz2 (by unfold maxLen;omega) | exact Own.bQ (w:=(w.alloc _).drew) (yA2 w w.heap.size _ .u64 q (zB3 _) (by unfold maxLen;omega)) hb2) (by rfl) (news:=r2) rfl (by first | exact hr2 | exact hr2.bQ (zC9 (zB3 _) _)) (by simp;omega) (by first | exact hsz2 | exact zB4 hsz2 (by simp)) ?_;intro v' w4 hown4 hb4)
  | (go_simp;go_at_call 155;refine (yB0 _ x _ r _ rfl (by first | exact h | exact h.bQ ((zC9 (zB3 _) _).drew)) hl hrb).mono ?_;rintro e w2 ⟨v2,r2,rfl,hv2,hlt2,hlen2,hval2,hf2,hb2⟩;obtain ⟨A2,c2,rfl,hc2,hm2,hr2⟩:=hv2;have hlb:r2.length<=1000001:=(by omega);have HV2:=hQ9 hval2;have hsz2:w.heap.size<=w2.heap.size:=(by have h0:=hb2.size;first | exact h0 | exact zB4 (by simp) h0);clear hlen2 hval2)
  | (go_simp;go_at_call 67;refine (qE7 _ _ y _ hown4.isS (HL.out _ hlt2) (HV.out _ HV2.out)).mono ?_;rintro e w3 ⟨v3,rfl,hv3,hf3,rfl⟩))
 all_goals
  go_wp2;go_ret2;refine ⟨_,rfl,hv3,hf3 _ hown4.fresh,?_⟩
  first
  | exact ((zC9 (zB3 _) _).drew.trans (hb2.mono (by simp))).trans hb4
  | exact (((Below.refl _ w).drew.trans hb2).alloc hsz2 _).trans hb4
theorem yX7 {B:Nat} (hB:2<=B) {l:List Nat} (h:Lt B l) (n:Nat):val B (l.drop n)=val B l / B^n:=by
 by_cases hn:n<=l.length
 ·have h1:=zL6 B (l.take n) (l.drop n);have h2:=zM8 (h.take n);rw [bX] at h1;rw [show (l.take n).length=n from by simp;omega] at h1 h2;rw [h1,Nat.add_mul_div_left _ _ (Nat.pow_pos (by omega)),Nat.div_eq_of_lt h2,bY5]
 ·rw [List.drop_of_length_le (by omega),zY2];have h2:=zM8 h;have h3:=bX9 (n:=B) (by omega) (show l.length<=n by omega);rw [Nat.div_eq_of_lt (by omega)]
theorem shr_val {x n g:Nat} (hg:n<=g*32):x*2^(g*32-n) / 4294967296^g=x / 2^n:=by
 have e:(4294967296:Nat)^g=2^n*2^(g*32-n):=by rw [qF0,<- Nat.pow_add];congr 1;omega
 rw [e,Nat.mul_div_mul_right _ _ (Nat.pow_pos (by omega))]
theorem yB1 (v:Value) (x:Nat) (nI:Int) (n:Nat) (w:World) (hn:nI=(n:Int)) (h:IsS w .u64 v (digs 4294967296 x)) (hl:(digs 4294967296 x).length<=1000000) (hn2:n<=100000) (y:Nat) (hy:y=x / 2^n) :
  Calls prog 132 #[v,.int .i64 nI] w (zO3 .u64 (digs 4294967296 y) 0 w):=by
 subst hn;have HY:Hid (y=x*2^((n+31) / 32*32-n) / 4294967296^((n+31) / 32)):=by show _=_;rw [hy,shr_val (by omega)]
 clear hy
 go_enter func132,ntmps132;go_wp2_with fail
 refine (yB0 _ x _ ((n+31) / 32*32-n) _ (by omega) h hl (by omega)).mono ?_;rintro e w2 ⟨v2,r2,rfl,hv2,hlt2,hlen2,hval2,hf2,hb2⟩;obtain ⟨A2,c2,rfl,hc2,hm2,hr2⟩:=hv2;have hlb:r2.length<=1000001:=by omega
 have HV:Hid (y=val 4294967296 (r2.drop ((n+31) / 32))):=by show _=_;rw [yX7 (by omega) hlt2,hval2];exact HY.out
 have hlt3:=hlt2.drop ((n+31) / 32);clear hlen2 hval2;have hm3:=hm2;unfold maxLen at hm2;by_cases hgl:(n+31) / 32<=r2.length
 ·go_wp2_with fail
  all_goals
   refine (qE7 _ (r2.drop ((n+31) / 32)) y _ (by first | exact hr2.isDrop hc2 hm3 hgl | exact qK3 (by omega) (by omega) (by omega)) hlt3 HV.out).mono ?_
   rintro e w3 ⟨v3,rfl,hv3,hf3,rfl⟩;go_wp2;go_ret2;exact ⟨_,rfl,hv3,hf3 _ (by first | exact hf2.drop _ _ _ | exact hf2.cut _ _),hb2⟩
 ·go_wp2_with fail
  all_goals
   refine (qE7 _ (r2.drop ((n+31) / 32)) y _ (qK3 (by omega) (by omega) (by omega)) hlt3 HV.out).mono ?_;rintro e w3 ⟨v3,rfl,hv3,hf3,rfl⟩;go_wp2;go_ret2;exact ⟨_,rfl,hv3,hf3 _ (by first | exact hf2.drop _ _ _ | exact hf2.cut _ _),hb2⟩
set_option maxRecDepth 100000
def NZ (o:List Nat):Prop:=∀ d,o[o.length-1]?=some d->d≠0
theorem NZ.trim {o:List Nat} (h:NZ o):num.trim o=o:=by
 by_cases hl:0<o.length
 ·obtain ⟨d,hd⟩:∃ d,o[o.length-1]?=some d:=⟨_,zA3 (by omega)⟩
  have:=qA9 hd (h d hd)
  rwa [show o.length-1+1=o.length from by omega,bX1] at this
 ·obtain rfl:o=[]:=List.length_eq_zero_iff.1 (by omega)
  rfl
theorem NZ.digs (x:Nat):NZ (num.digs 4294967296 x):=by
 intro d hd;have hl:(num.digs 4294967296 x).length-1<(num.digs 4294967296 x).length:=(zA4.1 hd).1;exact qJ5 (by omega) x (by omega) hd
def OT (x:Nat) (m:List Nat) (i up:Nat) (o:List Nat):Prop :=
 Lt 4294967296 o/\val 4294967296 o+4294967296^i*up=x+val 4294967296 (m.take i)/\i<=o.length/\(NZ o\/(o.length=i/\(0<up\/i<m.length)))
def PR (x:Nat) (m:List Nat) (i up:Nat) (o:List Nat):Prop :=
 Lt 4294967296 o/\val 4294967296 o+4294967296^i*up=x+val 4294967296 (m.take i)/\i<o.length/\((i+1<o.length/\NZ o)\/(i+1=o.length/\((∀ s,o[i]?=some s->s≠0)\/0<up\/i<m.length)))
theorem OT.start (x:Nat) (m:List Nat):OT x m 0 0 (num.digs 4294967296 x):=by
 unfold OT;exact ⟨zF8 (by omega) x,by rw [zF (by omega)];simp [val],by omega,.inl (NZ.digs x)⟩
theorem OT.there {x i up:Nat} {m o:List Nat} (h:OT x m i up o) (hi:i<o.length):PR x m i up o:=by
 unfold OT at h;unfold PR;obtain ⟨h1,h2,h3,h4⟩:=h
 have hz:NZ o:=by
  rcases h4 with h4 | ⟨h4,_⟩
  ·exact h4
  ·omega
 refine ⟨h1,h2,hi,?_⟩;by_cases hl:i+1<o.length
 ·exact .inl ⟨hl,hz⟩
 ·refine .inr ⟨by omega,.inl fun s hs=>hz s ?_⟩;rw [show o.length-1=i from by omega];exact hs
theorem OT.append {x up:Nat} {m o:List Nat} (h:OT x m o.length up o) (hc:0<up\/o.length<m.length):PR x m o.length up (o ++ [0]):=by
 unfold OT at h;unfold PR;obtain ⟨h1,h2,h3,h4⟩:=h;refine ⟨h1.snoc (by omega),by rw [zT9];omega,by simp,.inr ⟨by simp,.inr hc⟩⟩
theorem PR.step {x i up s e t up':Nat} {m o:List Nat} (h:PR x m i up o) (hm:NZ m) (hs:o[i]?=some s) (he:AtD m i e) (ht:t<4294967296) (heq:t+4294967296*up'=s+e+up):OT x m (i+1) up' (o.set i t):=by
 unfold PR at h;unfold OT;obtain ⟨h1,h2,h3,h4⟩:=h
 have ee:val 4294967296 (m.take (i+1))=val 4294967296 (m.take i)+4294967296^i*e:=by
  rcases he with he | ⟨he,rfl⟩
  ·exact zJ7 he
  ·rw [yA7 he];omega
 have hv:=qQ8 (B:=4294967296) hs t;refine ⟨h1.set ht i,?_,by simp;omega,?_⟩
 ·rw [ee,bY1,bX8]
  have e1:4294967296^i*t+4294967296^i*(4294967296*up')=4294967296^i*s+4294967296^i*e+4294967296^i*up:=by
   rw [<- Nat.mul_add,<- Nat.mul_add,<- Nat.mul_add,heq]
  omega
 ·rcases h4 with ⟨h4,h5⟩|⟨h4,h5⟩
  ·left
   intro d hd;rw [zB2,bW1 (by omega)] at hd;exact h5 d hd
  ·by_cases hu:0<up'
   ·exact .inr ⟨by simp;omega,.inl hu⟩
   ·by_cases ht0:t=0
    ·right
     refine ⟨by simp;omega,.inr ?_⟩;have hs0:s=0:=by omega
     have hu0:up=0:=by omega
     have he0:e=0:=by omega
     have him:i<m.length:=by
      rcases h5 with h5 | h5 | h5
      ·exact absurd hs0 (h5 s hs)
      ·omega
      ·exact h5
     rcases he with he | ⟨he,_⟩
     ·by_cases hl:i+1<m.length
      ·exact hl
      ·exact absurd he0 (hm e (by rw [show m.length-1=i from by omega];exact he))
     ·omega
    ·left
     intro d hd;rw [zB2,show o.length-1=i from by omega,bQ3 h3] at hd;injection hd with hd;omega
theorem yX8 (B:Nat) (l:List Nat) (n:Nat):val B (l.take n)<=val B l:=by
 have:=zL6 B (l.take n) (l.drop n)
 rw [bX] at this;omega
theorem OT.bound {x y i up:Nat} {o:List Nat} (h:OT x (num.digs 4294967296 y) i up o) (hu:0<up):i<=(num.digs 4294967296 x).length+(num.digs 4294967296 y).length:=by
 unfold OT at h;obtain ⟨h1,h2,h3,h4⟩:=h;rcases Nat.lt_or_ge ((num.digs 4294967296 x).length+(num.digs 4294967296 y).length) i with h5 | h5
 ·exfalso;have a1:=zK6 (B:=4294967296) (by omega) x;have a2:=zK6 (B:=4294967296) (by omega) y;have a3:=yX8 4294967296 (num.digs 4294967296 y) i;rw [zF (by omega)] at a3;obtain ⟨L,hL⟩:∃ L,L=(num.digs 4294967296 x).length+(num.digs 4294967296 y).length:=⟨_,rfl⟩;have b1:=bX9 (n:=4294967296) (by omega) (show (num.digs 4294967296 x).length<=L by omega);have b2:=bX9 (n:=4294967296) (by omega) (show (num.digs 4294967296 y).length<=L by omega);have b3:=bX9 (n:=4294967296) (by omega) (show L+1<=i by omega);have b4:=bY (4294967296^i) hu;rw [bY1] at b3;omega
 ·exact h5
theorem OT.done {x y i:Nat} {o:List Nat} (h:OT x (num.digs 4294967296 y) i 0 o) (hi:(num.digs 4294967296 y).length<=i):o=num.digs 4294967296 (x+y):=by
 unfold OT at h;obtain ⟨h1,h2,h3,h4⟩:=h;rw [zA7 hi,zF (by omega)] at h2
 have hz:NZ o:=by
  rcases h4 with h4 | ⟨_,h4⟩
  ·exact h4
  ·omega
 have e:=zN (by omega) h1;rw [hz.trim] at e;have e2:val 4294967296 o=x+y:=by omega
 rw [e2] at e;exact e
def RetOn (w0:World) (l:List Nat) (e:Ending) (w':World):Prop:=∃ v,e=.returned v/\Own w' w0.heap.size 75 .u64 v l/\Below w0.heap.size w0 w'
attribute [local go_sem ↓] Go.wp_at_zero Go.wp_at_succ
theorem yX9 (w0:World) (v u:Value) (x y:Nat) (w:World) (h:Own w w0.heap.size 75 .u64 v (digs 4294967296 x)) (h':IsS w0 .u64 u (digs 4294967296 y)) (hb:Below w0.heap.size w0 w) (hl:(digs 4294967296 x).length<=1000000) (hl':(digs 4294967296 y).length<=1000000) :
  Calls prog 167 #[v,u] w (RetOn w0 (digs 4294967296 (x+y))):=by
 have lt2:=zF8 (B:=4294967296) (by omega) y;have hu0:=h';obtain ⟨A,c,rfl,hc,hm,hr⟩:=h'
 go_enter func167,ntmps167
 go_wp2
 go_loopw [0,5,6] (fun vo vc vi wr => ∃ (i up:Nat) (o:List Nat),up<=1/\o.length<=(digs 4294967296 x).length+i/\i<=(digs 4294967296 x).length+(digs 4294967296 y).length+1/\OT x (digs 4294967296 y) i up o/\Own wr w0.heap.size 75 .u64 vo o/\Below w0.heap.size w0 wr/\vc=.int .u64 (up:Int)/\vi=.int .i64 (i:Int)) (fun _ _ vi _=>(digs 4294967296 x).length+(digs 4294967296 y).length+1-(intOf vi).toNat)
 case atStart=>exact ⟨0,0,_,by omega,by omega,by omega,OT.start x _,h,hb,rfl,rfl⟩
 case round =>
  clear h hb;obtain ⟨i,up,o,hup,hol,hiL,hO,hown,hb,rfl,rfl⟩:=hrel;have hsz:=hb.size;have hio:=hO.2.2.1;by_cases hcont:i<(digs 4294967296 y).length\/0<up
  ·have hiL2:i<=(digs 4294967296 x).length+(digs 4294967296 y).length:=by
    rcases hcont with h1 | h1
    ·omega
    ·exact hO.bound h1
   obtain ⟨e,he⟩:=AtD.of (digs 4294967296 y) i;have he1:=he.lt lt2 (by omega);have HE:=hQ9 he;clear he;by_cases happ:i=o.length
   ·subst happ;have HP:Hid (PR x (digs 4294967296 y) o.length up (o ++ [0])):=hO.append (by omega);clear hO;rcases (show o.length<(digs 4294967296 y).length\/(¬ o.length<(digs 4294967296 y).length/\((up:Int) != 0)=true) from by by_cases hx:o.length<(digs 4294967296 y).length;exact .inl hx;exact .inr ⟨hx,by rw [bne_iff_ne];omega⟩) with hcc | ⟨hcc,hnz⟩
    all_goals
     obtain ⟨A2,c2,rfl,hc2,hm2,hr2⟩:=hown.isS
     go_wp2_with (at_builtin;refine zS6 rfl _ _ rfl zK1 0 rfl hown rfl rfl (by omega) (by omega) ?_;intro v' w1 hown1 hb1 hg1)
     have hb2:=hb.trans hb1;have hsz2:=hb2.size;obtain ⟨g,cap,rfl,q1,q2,q3,q4⟩:=hown1.place (by simp);simp only [zA8,List.length_singleton] at hown1 q1;clear hown hr2 hg1 hb1 hb;obtain ⟨s,hs⟩:∃ s,(o ++ [0])[o.length]?=some s:=⟨_,zA3 (by have:=HP.out.2.2.1;exact this)⟩;have hs1:s<4294967296:=HP.out.1.at hs;have hc0:=hown1.cellAt hs;have hf0:=hown1.frozenAt o.length;have HS:Hid (∀ t c',t<4294967296->t+4294967296*c'=s+e+up->OT x (digs 4294967296 y) (o.length+1) c' ((o ++ [0]).set o.length t)):=fun t c' h1 h2=>HP.out.step (NZ.digs y) hs HE.out h1 h2;have hua:=hu0.bQ hb2;have b1:(0:Int)<=(o.length:Nat):=by omega
     have b2:((o.length:Nat):Int)<(((o ++ [0]).length:Nat):Int):=by have:=HP.out.2.2.1;omega
     try simp only [zA8,List.length_singleton] at b2
     clear hs HP
     go_region_with (first
      | (go_at_call 160;refine (qR1 _ _ _ o.length e _ rfl (by exact hua) HE.out).mono ?_;rintro e' w3 ⟨rfl,rfl⟩)
      | (go_at_call 149;refine (limb.add_any _ _ _ (by omega) (by omega) (by omega) (by omega) (by omega) (by omega) _).mono ?_;rintro e' w4 ⟨t,c3,rfl,H,rfl⟩))
     all_goals
      unfold qB1 at H;obtain ⟨s0,s1,c0,c1,heq⟩:=H;obtain ⟨t,rfl⟩:=Int.eq_ofNat_of_zero_le s0;obtain ⟨c3,rfl⟩:=Int.eq_ofNat_of_zero_le c0;have HQ:Hid (t+4294967296*c3=s+e+up):=by show _=_;omega
      have hc3:c3<=1:=by omega
      clear heq;go_wp2;go_roundw;case rel=>exact ⟨o.length+1,c3,(o ++ [0]).set o.length t,hc3,(by rw [zB2];first | omega | (simp;done) | (simp;omega)),by omega,HS.out t c3 (by omega) HQ.out,(by exact hown1.stored _ t),(hb2.setCell q3 _).drew,rfl,by go_num⟩
      case measure=>simp [intOf];omega
   ·have HP:Hid (PR x (digs 4294967296 y) i up o):=hO.there (by omega);have hbf:((i:Int) == (o.length:Int))=false:=by rw [beq_eq_false_iff_ne];omega
    clear hO;rcases (show i<(digs 4294967296 y).length\/(¬ i<(digs 4294967296 y).length/\((up:Int) != 0)=true) from by by_cases hx:i<(digs 4294967296 y).length;exact .inl hx;exact .inr ⟨hx,by rw [bne_iff_ne];omega⟩) with hcc | ⟨hcc,hnz⟩
    all_goals
     obtain ⟨g,cap,rfl,q1,q2,q3,q4⟩:=hown.place (by omega);have hown1:=hown;have hb2:=hb;clear hown hb;go_wp2;obtain ⟨s,hs⟩:∃ s,(o)[i]?=some s:=⟨_,zA3 (by have:=HP.out.2.2.1;exact this)⟩;have hs1:s<4294967296:=HP.out.1.at hs;have hc0:=hown1.cellAt hs;have hf0:=hown1.frozenAt i;have HS:Hid (∀ t c',t<4294967296->t+4294967296*c'=s+e+up->OT x (digs 4294967296 y) (i+1) c' ((o).set i t)):=fun t c' h1 h2=>HP.out.step (NZ.digs y) hs HE.out h1 h2;have hua:=hu0.bQ hb2;have b1:(0:Int)<=(i:Nat):=by omega
     have b2:((i:Nat):Int)<(((o).length:Nat):Int):=by have:=HP.out.2.2.1;omega
     try simp only [zA8,List.length_singleton] at b2
     clear hs HP
     go_region_with (first
      | (go_at_call 160;refine (qR1 _ _ _ i e _ rfl (by exact hua) HE.out).mono ?_;rintro e' w3 ⟨rfl,rfl⟩)
      | (go_at_call 149;refine (limb.add_any _ _ _ (by omega) (by omega) (by omega) (by omega) (by omega) (by omega) _).mono ?_;rintro e' w4 ⟨t,c3,rfl,H,rfl⟩))
     all_goals
      unfold qB1 at H;obtain ⟨s0,s1,c0,c1,heq⟩:=H;obtain ⟨t,rfl⟩:=Int.eq_ofNat_of_zero_le s0;obtain ⟨c3,rfl⟩:=Int.eq_ofNat_of_zero_le c0;have HQ:Hid (t+4294967296*c3=s+e+up):=by show _=_;omega
      have hc3:c3<=1:=by omega
      clear heq;go_wp2;go_roundw;case rel=>exact ⟨i+1,c3,(o).set i t,hc3,(by rw [zB2];first | omega | (simp;done) | (simp;omega)),by omega,HS.out t c3 (by omega) HQ.out,(by exact hown1.stored _ t),(hb2.setCell q3 _).drew,rfl,by go_num⟩
      case measure=>simp [intOf];omega
  ·have hup0:up=0:=by omega
   subst hup0;have HD:Hid (o=digs 4294967296 (x+y)):=hO.done (by omega);go_wp2;go_ret;exact ⟨_,rfl,by rw [<- HD.out];exact hown,hb⟩
set_option maxRecDepth 100000
def IsV (w:World) (v:Value) (vs:List Value):Prop:=∃ A c,v=.slice A vs.length c/\vs.length<=c /\ ∀ (i:Nat) (u:Value),vs[i]?=some u -> ∃ ad,A=some ad/\w.cell? (ad.add i)=some u
def qF2 (w:World) (vs:List Value) (xs:List Nat):Prop:=vs.length=xs.length /\ ∀ (i:Nat) (u:Value) (x:Nat),vs[i]?=some u->xs[i]?=some x->IsS w .u64 u (digs 4294967296 x)
theorem qF2.at_ {w:World} {vs:List Value} {xs:List Nat} (h:qF2 w vs xs) {i:Nat} (hi:i<vs.length):∃ u x,vs[i]?=some u/\xs[i]?=some x/\IsS w .u64 u (digs 4294967296 x):=by
 have h1:=h.1;exact ⟨_,_,zA3 hi,zA3 (by omega),h.2 i _ _ (zA3 hi) (zA3 (by omega))⟩
theorem yB2 {xs:List Nat} {k x:Nat} (h:xs[k]?=some x):(xs.take (k+1)).sum=(xs.take k).sum+x:=by rw [zY3 h,List.sum_append];simp
theorem sum_take_le (xs:List Nat) (k:Nat):(xs.take k).sum<=xs.sum:=by
 have:=congrArg List.sum (bX k xs)
 rw [List.sum_append] at this;omega
theorem yB3 {xs:List Nat} {k x:Nat} (h:xs[k]?=some x):x<=xs.sum:=by
 have h1:=yB2 h;have h2:=sum_take_le xs (k+1);omega
theorem zS7 (w:World) (t:TypeId) (vs:List Value):IsV (w.alloc (.cells vs.toArray t)) (.slice (some ⟨w.heap.size,0,none⟩) vs.length vs.length) vs:=by
 refine ⟨_,_,rfl,zB3 _,fun i u hu=>⟨_,rfl,?_⟩⟩;have ha:(⟨w.heap.size,0,none⟩:Addr).add i=⟨w.heap.size,i,none⟩:=by unfold Addr.add;split<;>simp_all
 rw [ha,cell_of_row _ _ i vs.toArray t (0,0) (heap_alloc_new w _)];simpa using hu
theorem yY {P:Program} {w:World} {ops:Array Oper} {rest:List Oper} {o:Oper} {a:Act} {Q:Exit->Act->World->Prop} (hgd:o.guard=none) (lo co:Operand) {t:TypeId} (ho:o.op=Op.makeSlice t lo co)
  {base:Nat} {e:TypeId} {k:IntKind} (hT:SliceT P t e k) {kl kc:IntKind} {C:Int} (n:Nat) (hl:a.eval lo=.int kl 0) (hc:a.eval co=.int kc C) (hC:C=(n:Int)) (hn:n<=10000000000000) (hbase:base<=w.heap.size)
  (h:∀ w',Own w' base e k (.slice (some ⟨w.heap.size,0,none⟩) 0 n) []->Below w.heap.size w w'->wpList P ops Q rest (a.put o.dst (.slice (some ⟨w.heap.size,0,none⟩) 0 n)) w'):wpList P ops Q (o :: rest) a w:=by
 obtain ⟨i,hi,hz,hs,hb⟩:=hT.info;refine wpList_make_own w hgd lo co t ho base e i (.int k 0) 1 hT.und hi hz hs kl kc C n hl hc hC (by rw [hb];omega) (by unfold maxLen;omega) hbase fun w' h1 h2 => ?_;exact h w' h1 ((Below.refl _ w).grown h2 (zB3 _) (fun g hg=>by cases hg))
theorem sum_any (V:Value) (vs:List Value) (xs:List Nat) (w:World) (hV:IsV w V vs) (hN:qF2 w vs xs) (hl:vs.length<=1000000) (hS:(digs 4294967296 xs.sum).length<=1000000) :
  Calls prog 162 #[V] w (zD7 .u64 (digs 4294967296 xs.sum) w):=by
 obtain ⟨A,c,rfl,hc,hcells⟩:=hV;have HC:=hQ9 hcells;have HN:=hQ9 hN;have HX:Hid (vs.length=xs.length):=hN.1;clear hcells hN
 go_enter func162,ntmps162
 go_wp2
 go_loop [3,11] (fun vl vi => ∃ (k L:Nat),k<=vs.length/\L<=1000000/\vl=.int .i64 (L:Int)/\vi=.int .i64 (k:Int)) (fun _ vi=>vs.length-(intOf vi).toNat)
 case atStart=>exact ⟨0,0,by omega,by omega,rfl,rfl⟩
 case round =>
  obtain ⟨k,L,hk,hL,rfl,rfl⟩:=hrel;by_cases hp:k<vs.length
  ·obtain ⟨u,x,hu,hx,hv⟩:=HN.out.at_ hp;obtain ⟨ad,rfl,hcell⟩:=HC.out k u hu;have hxl:=zG1 (B:=4294967296) (by omega) (yB3 hx);obtain ⟨A2,c2,rfl,hc2,hm2,hr2⟩:=hv;clear hu hx;by_cases hmx:L<(digs 4294967296 x).length
   ·go_wp2
    go_round
    case rel=>exact ⟨k+1,(digs 4294967296 x).length,by omega,by omega,rfl,by go_num⟩
    case measure=>simp [intOf];omega
   ·go_wp2
    go_round
    case rel=>exact ⟨k+1,L,by omega,by omega,rfl,by go_num⟩
    case measure=>simp [intOf];omega
  ·go_wp2_with (at_make;refine yY rfl _ _ rfl zK1 (L+1) rfl rfl (by omega) (by omega) (zB3 _) ?_;intro w1 hown1 hb1)
   go_loopw [6,25] (fun vo vi wr => ∃ k:Nat,k<=vs.length/\Own wr w.heap.size 75 .u64 vo (digs 4294967296 (xs.take k).sum)/\Below w.heap.size w wr/\vi=.int .i64 (k:Int)) (fun _ vi _=>vs.length-(intOf vi).toNat)
   case atStart=>exact ⟨0,by omega,by rw [bX6,List.sum_nil,zJ];exact hown1,hb1,rfl⟩
   case round =>
    clear hown1 hb1;obtain ⟨k2,hk2,hown,hb,rfl⟩:=hrel;by_cases hp2:k2<vs.length
    ·obtain ⟨u,x,hu,hx,hv⟩:=HN.out.at_ hp2;obtain ⟨ad,rfl,hcell⟩:=HC.out k2 u hu;have hcell2:=(hb.cell (bQ0 w _ hcell)).trans hcell;have hxl:=zG1 (B:=4294967296) (by omega) (yB3 hx);have htl:=zG1 (B:=4294967296) (by omega) (sum_take_le xs k2);have HT:=hQ9 (yB2 hx);clear hu hx hcell
     go_wp2_with fail
     refine (yX9 w _ _ _ x _ hown hv hb (by omega) (by omega)).mono ?_;rintro e w3 ⟨v3,rfl,hown3,hb3⟩;rw [<- HT.out] at hown3;go_wp2;go_roundw;case rel=>exact ⟨k2+1,by omega,hown3,hb3,by go_num⟩
     case measure=>simp [intOf];omega
    ·rw [zA7 (by have:=HX.out;omega)] at hown;go_wp2;go_ret;exact ⟨_,rfl,hown.isS,hown.fresh,hb⟩
theorem qK4 {w:World} {v u:Value} {x y:Nat} (h:IsS w .u64 v (digs 4294967296 x)) (h':IsS w .u64 u (digs 4294967296 y)):qF2 w [v,u] [x,y]:=by
 refine ⟨rfl,fun i a b ha hb => ?_⟩
 match i,ha,hb with
 | 0,ha,hb=>simp at ha hb;subst ha;subst hb;exact h
 | 1,ha,hb=>simp at ha hb;subst ha;subst hb;exact h'
theorem add_any (v u:Value) (x y:Nat) (w:World) (h:IsS w .u64 v (digs 4294967296 x)) (h':IsS w .u64 u (digs 4294967296 y)) (z:Nat) (hz:z=x+y) (hS:(digs 4294967296 z).length<=1000000) :
  Calls prog 144 #[v,u] w (zD7 .u64 (digs 4294967296 z) w):=by
 have HZ:Hid (z=[x,y].sum):=by show _=_;simp [hz]
 clear hz;rw [HZ.out] at hS |-;obtain ⟨A1,c1,rfl,_⟩:=id h;obtain ⟨A2,c2,rfl,_⟩:=id h'
 go_enter func144,ntmps144;go_wp2_with fail
 have hb:=zC9 (zB3 w.heap.size) (.cells #[.slice A1 (digs 4294967296 x).length c1,.slice A2 (digs 4294967296 y).length c2] 40);refine (sum_any _ [_,_] [x,y] _ (zS7 w 40 [_,_]) (qK4 (h.bQ hb) (h'.bQ hb)) (by simp) hS).mono ?_;rintro e w' ⟨v',rfl,hv,hf,hb2⟩;go_wp2;go_ret;exact ⟨_,rfl,hv,hf.mono hb.size,hb.trans (hb2.mono hb.size)⟩
end nat
namespace num
theorem yY0 {B:Nat} {l:List Nat} {i d:Nat} (hd:l[i]?=some d):B^i*d<=val B l:=by
 have il:i<l.length:=(zA4.1 hd).1
 have e:l=l.take i ++ (d :: l.drop (i+1)):=by
  rw [(zA4.1 hd).2.symm,List.getElem_cons_drop,bX]
 have l1:(l.take i).length=i:=by simp;omega
 rw [e,zL6,zN4,l1,Nat.mul_add];omega
theorem yB4 {B:Nat} {l:List Nat} {i:Nat} (h:val B l<B^i) (hi:i<l.length):l[i]?=some 0:=by
 rw [zA3 hi]
 have:=yY0 (B:=B) (zA3 hi)
 rcases bY3 (l[i]) with h0 | h0
 ·rw [h0]
 ·have:=bY (B^i) h0
  omega
theorem qR3 {B:Nat} {l:List Nat} {i:Nat} (h:l[i]?=some 0) (e:Nat):val B (l.set i e)=val B l+B^i*e:=by
 have:=qQ8 (B:=B) h e
 simpa using this
theorem qR4 {B:Nat} {l:List Nat} (h:Lt B l) {n:Nat} (hn:n<=l.length):val B (l.take n)=val B l % B^n:=by
 have h1:=zL6 B (l.take n) (l.drop n);have h2:=zM8 (h.take n);rw [bX] at h1;rw [show (l.take n).length=n from by simp;omega] at h1 h2;rw [h1,Nat.add_mul_mod_self_left,Nat.mod_eq_of_lt h2]
theorem qK5 {B:Nat} {l:List Nat} (h:Lt B l) {n:Nat} (hn:n<=l.length):val B (l.drop n)=val B l / B^n:=by
 have h1:=zL6 B (l.take n) (l.drop n);have h2:=zM8 (h.take n);rw [bX] at h1;rw [show (l.take n).length=n from by simp;omega] at h1 h2;have h3:0<B^n:=by omega
 rw [h1,Nat.add_mul_div_left _ _ h3,Nat.div_eq_of_lt h2,bY5]
def LO (B:Nat) (xl yl P:List Nat) (i:Nat):Prop:=Lt B P/\P.length=xl.length+yl.length/\val B P=val B (xl.take i)*val B yl
def LI (B:Nat) (xl yl P:List Nat) (i x j u:Nat):Prop:=Lt B P/\P.length=xl.length+yl.length/\u<B/\P[i+yl.length]?=some 0/\val B P+B^(i+j)*u=val B (xl.take i)*val B yl+B^i*(x*val B (yl.take j))
theorem LO.start {B:Nat} (hB:0<B) (xl yl:List Nat) {n:Nat} (hn:n=xl.length+yl.length):LO B xl yl (zB n 0) 0:=by
 refine ⟨Lt.rep hB n,by simp [hn],?_⟩;rw [qD9,bX6,zY2,Nat.zero_mul]
theorem LO.enter {B:Nat} {xl yl P:List Nat} {i:Nat} (hB:0<B) (hx:Lt B xl) (hy:Lt B yl) (h:LO B xl yl P i) (hi:i<xl.length) (x:Nat):LI B xl yl P i x 0 0:=by
 obtain ⟨h1,h2,h3⟩:=h;refine ⟨h1,h2,hB,?_,by rw [h3];simp [val]⟩;refine yB4 (B:=B) ?_ (by omega);have a:=zM8 (hx.take i);have b:=zM8 hy;rw [show (xl.take i).length=i from by simp;omega] at a;rw [h3,Nat.pow_add];exact Nat.mul_lt_mul'' a b
theorem LI.step {B:Nat} {xl yl P:List Nat} {i x j u d e s o:Nat} (h:LI B xl yl P i x j u) (hd:P[i+j]?=some d) (he:yl[j]?=some e) (hs:s<B) (ho:o<B) (hm:s+B*o=x*e+d+u):LI B xl yl (P.set (i+j) s) i x (j+1) o:=by
 obtain ⟨h1,h2,h3,h4,h5⟩:=h;have hj:j<yl.length:=(zA4.1 he).1;refine ⟨h1.set hs _,by simpa using h2,ho,?_,?_⟩
 ·rw [bW1 (by omega)];exact h4
 ·have e1:=qQ8 (B:=B) hd s;have e2:=zJ7 (B:=B) he
  have e3:B^(i+(j+1))*o+B^(i+j)*s=B^(i+j)*(s+B*o):=by
   rw [Nat.mul_add,show i+(j+1)=(i+j)+1 from by omega,bY1,bX8];omega
  have e4:B^i*(x*val B (yl.take (j+1)))=B^i*(x*val B (yl.take j))+B^(i+j)*(x*e):=by
   rw [e2,Nat.mul_add,Nat.mul_add,Nat.pow_add]
   congr 1
   simp only [bX8,Nat.mul_left_comm,bY0]
  rw [hm,Nat.mul_add,Nat.mul_add] at e3;omega
theorem LI.done {B:Nat} {xl yl P:List Nat} {i x u:Nat} (h:LI B xl yl P i x yl.length u) (hx:xl[i]?=some x):LO B xl yl (P.set (i+yl.length) u) (i+1):=by
 obtain ⟨h1,h2,h3,h4,h5⟩:=h;refine ⟨h1.set h3 _,by simpa using h2,?_⟩;rw [qR3 h4,h5,bX1,zJ7 hx,Nat.add_mul,bX8]
theorem LO.done {B:Nat} {xl yl P:List Nat} {i:Nat} (h:LO B xl yl P i) (hi:xl.length<=i):Lt B P/\val B xl*val B yl=val B P:=by
 obtain ⟨h1,h2,h3⟩:=h;rw [zA7 hi] at h3;exact ⟨h1,h3.symm⟩
def SM (B:Nat) (xl P:List Nat) (m c i u:Nat):Prop:=Lt B P/\P.length=xl.length+1/\u<B/\val B P<B^i/\val B P+B^i*u=val B (xl.take i)*m+c
theorem SM.start {B:Nat} (xl:List Nat) (m:Nat) {c n:Nat} (hc:c<B) (hn:n=xl.length+1):SM B xl (zB n 0) m c 0 c:=by
 refine ⟨Lt.rep (by omega) n,by simp [hn],hc,by rw [qD9];simp,?_⟩;rw [qD9,bX6,zY2];simp
theorem SM.at0 {B:Nat} {xl P:List Nat} {m c i u:Nat} (h:SM B xl P m c i u) (hi:i<=xl.length):P[i]?=some 0:=yB4 h.2.2.2.1 (by have:=h.2.1;omega)
theorem SM.step {B:Nat} {xl P:List Nat} {m c i u x s o:Nat} (h:SM B xl P m c i u) (hx:xl[i]?=some x) (hs:s<B) (ho:o<B) (hm:s+B*o=x*m+u):SM B xl (P.set i s) m c (i+1) o:=by
 have hi:i<xl.length:=(zA4.1 hx).1;have h0:=h.at0 (by omega);obtain ⟨h1,h2,h3,h4,h5⟩:=h;have e1:=qR3 (B:=B) h0 s;have e2:=zJ7 (B:=B) hx;have e3:B^i*(s+1)<=B^i*B:=bY _ hs;have e4:B^i*(s+B*o)=B^i*s+B^(i+1)*o:=by rw [Nat.mul_add,bY1,bX8]
 refine ⟨h1.set hs _,by simpa using h2,ho,?_,?_⟩
 ·rw [e1,bY1];rw [Nat.mul_add] at e3;omega
 ·rw [hm,Nat.mul_add] at e4;rw [e1,e2,Nat.add_mul,bX8];omega
theorem SM.done {B:Nat} {xl P:List Nat} {m c u:Nat} (h:SM B xl P m c xl.length u):Lt B (P.set xl.length u)/\val B xl*m+c=val B (P.set xl.length u):=by
 have h0:=h.at0 (zB3 _);obtain ⟨h1,h2,h3,h4,h5⟩:=h;rw [bX1] at h5;exact ⟨h1.set h3 _,by rw [qR3 h0,<- h5]⟩
theorem qR5 {B:Nat} (L cs:List Nat) (off:Nat) (h:off+cs.length<=L.length):val B (splice L off cs)=val B (L.take off)+B^off*val B cs+B^(off+cs.length)*val B (L.drop (off+cs.length)):=by
 unfold splice;rw [zL6,zL6,show (L.take off).length=off from by simp;omega,Nat.mul_add,Nat.pow_add,bX8];omega
theorem Lt.splice {B:Nat} {L cs:List Nat} {off:Nat} (h:Lt B L) (h':Lt B cs):Lt B (splice L off cs):=(h.take off).append (h'.append (h.drop _))
theorem yB5 {B x:Nat} (hB:2<=B) {h N:Nat} (hx:B^h*x<B^N) (hh:h<=N):(digs B x).length<=N-h:=by
 refine zG7 hB ?_;rw [show N=h+(N-h) from by omega,Nat.pow_add] at hx;exact Nat.lt_of_mul_lt_mul_left hx
structure Cuts (B x y h n m:Nat) (lo hi mid:Nat):Prop where
 hlo:lo=x % B^h*(y % B^h)
 hhi:hi=x / B^h*(y / B^h)
 hmid:mid=x % B^h*(y / B^h)+x / B^h*(y % B^h)
 hx:x<B^n
 hy:y<B^m
 hN:2*h<=n+m
theorem Cuts.all {B x y h n m lo hi mid:Nat} (c:Cuts B x y h n m lo hi mid):(x % B^h+x / B^h)*(y % B^h+y / B^h)=lo+hi+mid:=by
 rw [c.hlo,c.hhi,c.hmid,Nat.add_mul,Nat.mul_add,Nat.mul_add];omega
theorem Cuts.prod {B x y h n m lo hi mid:Nat} (c:Cuts B x y h n m lo hi mid):x*y=lo+B^h*mid+B^(2*h)*hi:=by
 have ex:=Nat.mod_add_div x (B^h);have ey:=Nat.mod_add_div y (B^h);rw [c.hlo,c.hhi,c.hmid]
 generalize x % B^h=x0 at *
 generalize x / B^h=x1 at *
 generalize y % B^h=y0 at *
 generalize y / B^h=y1 at *
 have e2:B^(2*h)=B^h*B^h:=by rw [Nat.two_mul,Nat.pow_add]
 rw [e2]
 generalize B^h=b at *
 rw [<- ex,<- ey];simp only [Nat.mul_add,Nat.mul_left_comm,bY0,Nat.add_assoc,Nat.add_comm]
theorem Cuts.lt {B x y h n m lo hi mid:Nat} (c:Cuts B x y h n m lo hi mid) (hB:2<=B):x*y<B^(n+m):=by
 rw [Nat.pow_add];exact Nat.mul_lt_mul'' c.hx c.hy
theorem Cuts.lo_lt {B x y h n m lo hi mid:Nat} (c:Cuts B x y h n m lo hi mid) (hB:2<=B):lo<B^(2*h):=by
 have hb:0<B^h:=Nat.pow_pos (by omega);rw [c.hlo,Nat.two_mul,Nat.pow_add];exact Nat.mul_lt_mul'' (Nat.mod_lt _ hb) (Nat.mod_lt _ hb)
theorem Cuts.lo_len {B x y h n m lo hi mid:Nat} (c:Cuts B x y h n m lo hi mid) (hB:2<=B):(digs B lo).length<=2*h:=zG7 hB (c.lo_lt hB)
theorem Cuts.hi_len {B x y h n m lo hi mid:Nat} (c:Cuts B x y h n m lo hi mid) (hB:2<=B):(digs B hi).length<=n+m-2*h:=by
 have h1:=c.lt hB;rw [c.prod] at h1;exact yB5 hB (by omega) c.hN
def cut1 (B N lo:Nat):List Nat:=splice (zB N 0) 0 (digs B lo)
def zQ2 (B N h lo hi:Nat):List Nat:=splice (cut1 B N lo) (2*h) (digs B hi)
def qF3 (B N h lo hi t:Nat):List Nat:=splice (zQ2 B N h lo hi) h (digs B t)
theorem Cuts.one {B x y h n m lo hi mid:Nat} (c:Cuts B x y h n m lo hi mid) (hB:2<=B):Lt B (cut1 B (n+m) lo)/\(cut1 B (n+m) lo).length=n+m/\val B (cut1 B (n+m) lo)=lo:=by
 have h1:=c.lo_len hB;have h2:=c.hN;refine ⟨(Lt.rep (by omega) _).splice (zF8 hB _),?_,?_⟩
 ·unfold cut1;rw [length_splice _ _ _ (by simp;omega)];simp
 ·unfold cut1;rw [qR5 _ _ _ (by simp;omega),bX6,zY2,zF hB,List.drop_replicate,qD9];simp
theorem Cuts.two {B x y h n m lo hi mid:Nat} (c:Cuts B x y h n m lo hi mid) (hB:2<=B):Lt B (zQ2 B (n+m) h lo hi)/\(zQ2 B (n+m) h lo hi).length=n+m/\val B (zQ2 B (n+m) h lo hi)=lo+B^(2*h)*hi:=by
 obtain ⟨g1,g2,g3⟩:=c.one hB;have h1:=c.lo_lt hB;have h2:=c.hN;have h3:=c.hi_len hB;have hf:2*h+(digs B hi).length<=(cut1 B (n+m) lo).length:=by omega
 refine ⟨g1.splice (zF8 hB _),?_,?_⟩
 ·unfold zQ2;rw [length_splice _ _ _ hf,g2]
 ·unfold zQ2;rw [qR5 _ _ _ hf,qR4 g1 (by omega),g3,Nat.mod_eq_of_lt h1,zF hB,qK5 g1 hf,g3]
  have h4:lo / B^(2*h+(digs B hi).length)=0:=by
   refine Nat.div_eq_of_lt (bY2 h1 (bX9 (by omega) (by omega)))
  rw [h4];simp
theorem Cuts.mids {B x y h n m lo hi mid:Nat} (c:Cuts B x y h n m lo hi mid) (hB:2<=B):val B ((zQ2 B (n+m) h lo hi).drop h)=(lo+B^(2*h)*hi) / B^h:=by
 obtain ⟨g1,g2,g3⟩:=c.two hB;rw [qK5 g1 (by rw [g2];have:=c.hN;omega),g3]
theorem Cuts.t_eq {B x y h n m lo hi mid t:Nat} (c:Cuts B x y h n m lo hi mid) (hB:2<=B) (ht:t=(lo+B^(2*h)*hi) / B^h+mid):(lo+B^(2*h)*hi) % B^h+B^h*t=x*y:=by
 have h1:=Nat.mod_add_div (lo+B^(2*h)*hi) (B^h);rw [c.prod,ht,Nat.mul_add];omega
theorem Cuts.t_len {B x y h n m lo hi mid t:Nat} (c:Cuts B x y h n m lo hi mid) (hB:2<=B) (ht:t=(lo+B^(2*h)*hi) / B^h+mid):(digs B t).length<=n+m-h:=by
 have h1:=c.t_eq hB ht;have h2:=c.lt hB;have h3:B^h*t<=x*y:=by rw [<- h1];exact Nat.le_add_left _ _
 exact yB5 hB (Nat.lt_of_le_of_lt h3 h2) (by have:=c.hN;omega)
theorem Cuts.three {B x y h n m lo hi mid t:Nat} (c:Cuts B x y h n m lo hi mid) (hB:2<=B) (ht:t=(lo+B^(2*h)*hi) / B^h+mid):Lt B (qF3 B (n+m) h lo hi t)/\x*y=val B (qF3 B (n+m) h lo hi t):=by
 obtain ⟨g1,g2,g3⟩:=c.two hB;have h2:=c.hN;have h3:=c.t_len hB ht;have hf:h+(digs B t).length<=(zQ2 B (n+m) h lo hi).length:=by omega
 refine ⟨g1.splice (zF8 hB _),?_⟩;unfold qF3;rw [qR5 _ _ _ hf,qR4 g1 (by omega),g3,zF hB,qK5 g1 hf,g3,<- c.t_eq hB ht];have h5:=zK6 hB t
 have h4:(lo+B^(2*h)*hi) / B^(h+(digs B t).length)=0:=by
  rw [Nat.pow_add,<- Nat.div_div_eq_div_mul];exact Nat.div_eq_of_lt (by omega)
 rw [h4];simp
end num
namespace mem
open Go.RowKit
theorem Own.whole {w:World} {base:Nat} {e:TypeId} {k:IntKind} {g n:Nat} {l:List Nat} (h:Own w base e k (.slice (some ⟨g,0,none⟩) n n) l):w.heap[g]?=some (.cells (nv k l).toArray e (0,0))/\base<=g/\n=l.length/\n<=maxLen:=by
 obtain rfl:=h.len_eq;rcases h.2 with ⟨h1,_⟩|⟨g',cap,cur,h1,hb,hg,hn,hm,hs,ht⟩
 ·cases h1
 ·injection h1 with h1 h2 h3;injection h1 with h1;injection h1 with h1 _ _;subst h1;refine ⟨?_,hb,rfl,by omega⟩;rw [hg,<- ht,zA7 (by simp;omega)]
theorem yB6 {w:World} {base:Nat} {e:TypeId} {k:IntKind} {g n:Nat} {l:List Nat} (hg:w.heap[g]?=some (.cells (nv k l).toArray e (0,0))) (hb:base<=g) (hn:n=l.length) (hm:n<=maxLen):Own w base e k (.slice (some ⟨g,0,none⟩) n n) l:=by
 subst hn;refine ⟨by simp [nv],Or.inr ⟨g,_,_,rfl,hb,hg,zB3 _,hm,by simp [nv],by rw [<- zS5 k l];simp⟩⟩
open num in
theorem Own.cutEnd {w:World} {base:Nat} {e:TypeId} {k:IntKind} {g n cap m:Nat} {l:List Nat} (h:Own w base e k (.slice (some ⟨g,0,none⟩) n cap) l) (hm:m<=l.length):Own w base e k (.slice (some ⟨g,0,none⟩) m cap) (l.take m):=by
 obtain rfl:=h.len_eq;have hl:(l.take m).length=m:=by simp;omega
 rcases h.2 with ⟨h1,_⟩|⟨g',cap',cur,h1,hb,hg,hn,hmx,hs,ht⟩
 ·cases h1
 ·injection h1 with h1 h2 h3;injection h1 with h1;injection h1 with h1 _ _;subst h1;subst h3;refine ⟨by simp [nv],Or.inr ⟨g,cap,cur,by rw [hl],hb,hg,by omega,hmx,hs,?_⟩⟩;rw [Nat.mul_one] at ht |-;rw [hl,show nv k (l.take m)=(nv k l).take m from by simp [nv,List.map_take],<- ht,List.take_take,Nat.min_eq_left hm]
open num in
theorem Own.trimmed {w:World} {base:Nat} {e:TypeId} {k:IntKind} {g n cap:Nat} {l:List Nat} (h:Own w base e k (.slice (some ⟨g,0,none⟩) n cap) l):Own w base e k (.slice (some ⟨g,0,none⟩) (num.trim l).length cap) (num.trim l):=by
 have:=h.cutEnd (qE l)
 rwa [<- qJ4] at this
end mem
namespace nat
open Go.RowKit num mem limb
def yB7 (A:Option Addr) (c:Nat) (l:List Nat) (w:World) (e:Ending) (w':World):Prop:=e=.returned (.slice A (trim l).length c)/\w'=w
theorem qB3 (A:Option Addr) (n c:Nat) (l:List Nat) (w:World) (hn:n=l.length) (hc:l.length<=c) (hm:c<=maxLen) (hr:Rd w A .u64 l) :
  Calls prog 148 #[.slice A n c] w (yB7 A c l w):=by
 subst hn;unfold maxLen at hm
 go_enter func148,ntmps148
 go_wp2
 go_loop [0] (fun vs => ∃ n:Nat,n<=l.length/\Hid (trim (l.take n)=trim l)/\vs=.slice A n c) (fun vs=>lenOf vs)
 case atStart=>exact ⟨l.length,zB3 _,by rw [bX1];rfl,rfl⟩
 case round =>
  obtain ⟨n,hn,ht,rfl⟩:=hrel;by_cases hp:0<n
  ·obtain ⟨n,rfl⟩:∃ m,n=m+1:=⟨n-1,by omega⟩;obtain ⟨ad,d,rfl,hd,hcell⟩:=hr.at_ (i:=n) (by omega);have HD:=hQ9 hd;clear hd;by_cases hz:d=0
   ·subst hz;go_wp2
    go_round
    case rel=>exact ⟨n,by omega,by have h1:=ht.out;rw [qE0 HD.out] at h1;exact h1,rfl⟩
    case measure=>simp [lenOf]
   ·have hz1:((d:Int) == 0)=false:=by rw [beq_eq_false_iff_ne];omega
    have e:trim l=l.take (n+1):=by have h1:=ht.out;rw [qA9 HD.out hz] at h1;exact h1.symm
    have el:(trim l).length=n+1:=by rw [e];simp;omega
    have HEL:=hQ9 el;clear e el hz;go_wp2;go_ret;exact ⟨by rw [HEL.out];rfl,rfl⟩
  ·obtain rfl:n=0:=by omega
   have e:trim l=[]:=by have h1:=ht.out;rw [bX6] at h1;exact h1.symm
   have HE:=hQ9 e;clear e;go_wp2;go_ret;exact ⟨by rw [HE.out];rfl,rfl⟩
def RetM (a b c d:Nat) (w:World) (e:Ending) (w':World):Prop:=∃ s o:Nat,e=.returned (.tuple #[.int .u64 (s:Int),.int .u64 (o:Int)])/\s<4294967296/\o<4294967296/\s+4294967296*o=a*(b % 4294967296)+c+d/\w=w'
theorem qR6 (aI bI cI dI:Int) (a b c d:Nat) (w:World) (ha:aI=(a:Int)) (hb:bI=(b:Int)) (hc:cI=(c:Int)) (hd:dI=(d:Int)) (la:a<4294967296) (lb:b<18446744073709551616) (lc:c<4294967296) (ld:d<4294967296) :
  Calls prog 150 #[.int .u64 aI,.int .u64 bI,.int .u64 cI,.int .u64 dI] w (RetM a b c d w):=by
 subst ha;subst hb;subst hc;subst hd;refine (limb.mul_any _ _ _ _ (by omega) (by omega) (by omega) (by omega) (by omega) (by omega) (by omega) (by omega) w).mono ?_;rintro e w' ⟨s,o,rfl,hs,rfl⟩;unfold qK2 at hs;obtain ⟨s0,s1,o0,o1,he⟩:=hs;obtain ⟨s,rfl⟩:=Int.eq_ofNat_of_zero_le s0;obtain ⟨o,rfl⟩:=Int.eq_ofNat_of_zero_le o0;refine ⟨s,o,rfl,by omega,by omega,?_,rfl⟩;rw [Int.emod_eq_of_lt (by omega) (show (a:Int)<4294967296 by omega),Int.emod_eq_of_lt (by omega) (show (c:Int)<4294967296 by omega),Int.emod_eq_of_lt (by omega) (show (d:Int)<4294967296 by omega)] at he;have e2:(b:Int) % 4294967296=((b % 4294967296:Nat):Int):=by omega
 rw [e2] at he;have e3:((a*(b % 4294967296):Nat):Int)=(a:Int)*((b % 4294967296:Nat):Int):=Int.natCast_mul _ _;omega
theorem yY1 (v u:Value) (xl yl:List Nat) (w:World) (h:IsS w .u64 v xl) (h':IsS w .u64 u yl) (lx:Lt 4294967296 xl) (ly:Lt 4294967296 yl) (hl:xl.length<=1000000) (hl':yl.length<=1000000) :
  Calls prog 146 #[v,u] w (zD7 .u64 (digs 4294967296 (val 4294967296 xl*val 4294967296 yl)) w):=by
 obtain ⟨A,c,rfl,hc,hm,hr⟩:=h;obtain ⟨A',c',rfl,hc',hm',hr'⟩:=h';unfold maxLen at hm hm';have hgood:∀ n:Nat,n<=2000000->n<=maxLen:=fun n hn=>by unfold maxLen;omega
 go_enter func146,ntmps146
 go_wp2_with (at_make;refine zR4 rfl _ _ rfl zK1 (xl.length+yl.length) rfl rfl (by omega) (by omega) (by omega) (zB3 _) ?_;intro w1 hown1 hb1 hsz1)
 go_loopw [20] (fun vi wr => ∃ (i:Nat) (P:List Nat),i<=xl.length/\LO 4294967296 xl yl P i/\Own wr w.heap.size 75 .u64 (.slice (some ⟨w.heap.size,0,none⟩) (xl.length+yl.length) (xl.length+yl.length)) P/\Below w.heap.size w wr/\vi=.int .i64 (i:Int)) (fun vi _=>xl.length-(intOf vi).toNat)
 case atStart=>exact ⟨0,_,by omega,LO.start (by omega) xl yl rfl,hown1,hb1,rfl⟩
 case round =>
  clear hown1 hb1 hsz1;obtain ⟨i,P,hi,HO,hown,hb,rfl⟩:=hrel;by_cases hlt:i<xl.length
  ·obtain ⟨ad,x,rfl,hx,hcell⟩:=(hr.bQ hb).at_ hlt;have HI:=HO.enter (by omega) lx ly hlt x;have hx1:=lx.at hx;have HX:=hQ9 hx;clear hx HO;go_wp2
   go_loopw [9,35] (fun vu vj wr => ∃ (j u:Nat) (P:List Nat),j<=yl.length/\LI 4294967296 xl yl P i x j u/\Own wr w.heap.size 75 .u64 (.slice (some ⟨w.heap.size,0,none⟩) (xl.length+yl.length) (xl.length+yl.length)) P/\Below w.heap.size w wr/\vu=.int .u64 (u:Int)/\vj=.int .i64 (j:Int)) (fun _ vj _=>yl.length-(intOf vj).toNat)
   case atStart=>exact ⟨0,0,P,by omega,HI,hown,hb,rfl,rfl⟩
   case round =>
    clear HI hown hb;obtain ⟨j,u,P,hj,HI,hown,hb,rfl,rfl⟩:=hrel;have hu:=HI.2.2.1;have hPl:=HI.2.1;by_cases hjt:j<yl.length
    ·obtain ⟨ad',e,rfl,he,hcell'⟩:=(hr'.bQ hb).at_ hjt;have he1:=ly.at he;obtain ⟨d,hd⟩:∃ d,P[i+j]?=some d:=⟨_,zA3 (by omega)⟩;have hd1:=HI.1.at hd;have hc0:=hown.cellAt hd;have hf0:=hown.frozenAt (i+j);have HE:=hQ9 he;have HD:=hQ9 hd;have hPL:=hQ9 hPl;clear he hd hPl
     go_wp2_with fail
     refine (qR6 _ _ _ _ x e d u _ rfl rfl rfl rfl hx1 (by omega) hd1 hu).mono ?_;rintro e1 w2 ⟨s,o,rfl,hs,ho,hm2,rfl⟩;have HI2:=HI.step HD.out HE.out hs ho (by rw [hm2,Nat.mod_eq_of_lt he1]);have hown2:=hown.stored (i+j) s;have hb2:Below w.heap.size w (wr.setCell ⟨w.heap.size,i+j,none⟩ (.int .u64 (s:Int))):=hb.setCell (zB3 _) _;clear hm2;go_wp2;go_roundw;case rel=>exact ⟨j+1,o,_,by omega,HI2,hown2,hb2,rfl,by go_num⟩
     case measure=>simp [intOf];omega
    ·obtain rfl:j=yl.length:=by omega
     have HO:=HI.done HX.out;have hc0:=hown.cellAt HI.2.2.2.1;have hf0:=hown.frozenAt (i+yl.length);have hown2:=hown.stored (i+yl.length) u;have hb2:Below w.heap.size w (wr.setCell ⟨w.heap.size,i+yl.length,none⟩ (.int .u64 (u:Int))):=hb.setCell (zB3 _) _;clear HI hPl;go_wp2;go_roundw;case rel=>exact ⟨i+1,_,by omega,HO,hown2,hb2,by go_num⟩
     case measure=>simp [intOf];omega
  ·obtain ⟨h1,h2⟩:=HO.done (by omega);have hP:=HO.2.1;have hrd:=hown.isS;obtain ⟨A2,c2,e2,hc2,hm2,hr2⟩:=hrd;injection e2 with e2 e3 e4;subst e2;subst e4;have hT:=zN (by omega) h1;rw [<- h2] at hT;have HT:=hQ9 hT;have HP:=hQ9 hP;have hfr:=hown.fresh;clear hT hP h2 e3 HO
   go_wp2_with fail
   refine (qB3 _ _ _ P _ HP.out.symm hc2 hm2 hr2).mono ?_;rintro e w' ⟨rfl,rfl⟩;rw [HT.out];go_wp2;go_ret;refine ⟨_,rfl,?_,hfr.cut _ _,hb⟩
   have:=hr2.isTake (qE P) hc2 hm2
   rw [<- qJ4,HT.out] at this;exact this
theorem yB8 (v u:Value) (x y:Nat) (w:World) (h:IsS w .u64 v (digs 4294967296 x)) (h':IsS w .u64 u (digs 4294967296 y)) (hl:(digs 4294967296 x).length<=1000000) (hl':(digs 4294967296 y).length<=1000000) (z:Nat) (hz:z=x*y) :
  Calls prog 146 #[v,u] w (zD7 .u64 (digs 4294967296 z) w):=by
 have:=yY1 v u _ _ w h h' (zF8 (by omega) x) (zF8 (by omega) y) hl hl'
 rw [zF (by omega),zF (by omega),<- hz] at this;exact this
theorem add0 (cI:Int) (c:Nat) (w:World) (hc:cI=(c:Int)) (lc:c<18446744073709551616) :
  Calls prog 149 #[.int .u64 cI,.int .u64 0,.int .u64 0] w fun e w' => ∃ o:Int,e=.returned (.tuple #[.int .u64 ((c % 4294967296:Nat):Int),.int .u64 o])/\w=w':=by
 subst hc;refine (limb.add_any _ _ _ (by omega) (by omega) (by omega) (by omega) (by omega) (by omega) w).mono ?_;rintro e w' ⟨s,o,rfl,hs,rfl⟩;unfold qB1 at hs;obtain rfl:s=((c % 4294967296:Nat):Int):=by omega
 exact ⟨o,rfl,rfl⟩
theorem yB9 (v:Value) (x:Nat) (mI cI:Int) (m c:Nat) (w:World) (h:IsS w .u64 v (digs 4294967296 x)) (hl:(digs 4294967296 x).length<=1000000) (hmI:mI=(m:Int)) (hcI:cI=(c:Int)) (lm:m<18446744073709551616) (lc:c<18446744073709551616) (z:Nat) (hz:z=x*(m % 4294967296)+c % 4294967296) :
  Calls prog 128 #[v,.int .u64 mI,.int .u64 cI] w (RetOwn 75 .u64 (digs 4294967296 z) w):=by
 subst hmI;subst hcI;have lx:=zF8 (B:=4294967296) (by omega) x;have HZ:Hid (z=val 4294967296 (digs 4294967296 x)*(m % 4294967296)+c % 4294967296):=by show _=_;rw [zF (by omega)];exact hz
 clear hz
 generalize digs 4294967296 x=xl at h hl lx HZ
 obtain ⟨A,k,rfl,hk,hm,hr⟩:=h;unfold maxLen at hm;have hlm:(m:Int)<=18446744073709551615:=by omega
 have hlc:(c:Int)<=18446744073709551615:=by omega
 go_enter func128,ntmps128
 go_wp2_with (at_make;refine zR4 rfl _ _ rfl zK1 (xl.length+1) rfl rfl (by omega) (by omega) (by omega) (zB3 _) ?_;intro w1 hown1 hb1 hsz1)
 refine (add0 _ c _ rfl lc).mono ?_;rintro e w2 ⟨o,rfl,rfl⟩;go_wp2
 go_loopw [8,23] (fun vu vi wr => ∃ (i u:Nat) (P:List Nat),i<=xl.length/\SM 4294967296 xl P (m % 4294967296) (c % 4294967296) i u/\Own wr w.heap.size 75 .u64 (.slice (some ⟨w.heap.size,0,none⟩) (xl.length+1) (xl.length+1)) P/\Below w.heap.size w wr/\vu=.int .u64 (u:Int)/\vi=.int .i64 (i:Int)) (fun _ vi _=>xl.length-(intOf vi).toNat)
 case atStart=>exact ⟨0,c % 4294967296,_,by omega,SM.start xl _ (by omega) rfl,hown1,hb1,by go_num,rfl⟩
 case round =>
  clear hown1 hb1 hsz1;obtain ⟨i,u,P,hi,HS,hown,hb,rfl,rfl⟩:=hrel;have hu:=HS.2.2.1;have hc0:=hown.cellAt (HS.at0 hi);have hf0:=hown.frozenAt i;have hPl:Hid (P.length=xl.length+1):=HS.2.1;by_cases hlt:i<xl.length
  ·obtain ⟨ad,x,rfl,hx,hcell⟩:=(hr.bQ hb).at_ hlt;have hx1:=lx.at hx;have HX:=hQ9 hx;clear hx
   go_wp2_with fail
   refine (qR6 _ _ _ _ x m u 0 _ rfl rfl rfl rfl hx1 lm hu (by omega)).mono ?_;rintro e1 w2 ⟨s,o,rfl,hs,ho,hm2,rfl⟩;have HS2:=HS.step HX.out hs ho (by rw [hm2];omega);have hown2:=hown.stored i s;have hb2:Below w.heap.size w (wr.setCell ⟨w.heap.size,i,none⟩ (.int .u64 (s:Int))):=hb.setCell (zB3 _) _;clear hm2;go_wp2;go_roundw;case rel=>exact ⟨i+1,o,_,by omega,HS2,hown2,hb2,rfl,by go_num⟩
   case measure=>simp [intOf];omega
  ·obtain rfl:i=xl.length:=by omega
   obtain ⟨h1,h2⟩:=HS.done;rw [<- HZ.out] at h2;have hT:=zN (by omega) h1;rw [<- h2] at hT;have HT:=hQ9 hT;have hown2:=hown.stored xl.length u;have hb2:Below w.heap.size w (wr.setCell ⟨w.heap.size,xl.length,none⟩ (.int .u64 (u:Int))):=hb.setCell (zB3 _) _;obtain ⟨A2,c2,e2,hc2,hm2,hr2⟩:=hown2.isS;injection e2 with e2 e3 e4;subst e2;subst e4;have hownT:=hown2.trimmed;rw [hT] at hownT;have HE:=hQ9 e3;clear hT h2 HS e3;go_wp2_with fail
   refine (qB3 _ _ _ (P.set xl.length u) _ HE.out hc2 hm2 hr2).mono ?_;rintro e w' ⟨rfl,rfl⟩;rw [HT.out];go_wp2;go_ret;exact ⟨_,rfl,hownT,hb2⟩
theorem qK6 (v:Value) (x:Nat) (mI cI:Int) (m c:Nat) (w:World) (h:IsS w .u64 v (digs 4294967296 x)) (hl:(digs 4294967296 x).length<=1000000) (hmI:mI=(m:Int)) (hcI:cI=(c:Int)) (lm:m<18446744073709551616) (lc:c<18446744073709551616) (z:Nat) (hz:z=x*(m % 4294967296)+c % 4294967296) :
  Calls prog 128 #[v,.int .u64 mI,.int .u64 cI] w (zD7 .u64 (digs 4294967296 z) w) :=
 (yB9 v x mI cI m c w h hl hmI hcI lm lc z hz).mono fun e w' ⟨v',he,hown,hb⟩=>⟨v',he,hown.isS,hown.fresh,hb⟩
end nat
namespace mem
open Go.RowKit
open num in
theorem Rd.isTrim {w:World} {A:Option Addr} {k:IntKind} {l:List Nat} {c:Nat} (h:Rd w A k l) (hc:l.length<=c) (hm:c<=maxLen):IsS w k (.slice A (trim l).length c) (trim l):=by
 have:=h.isTake (qE l) hc hm
 rwa [<- qJ4] at this
end mem
namespace nat
open Go.RowKit num mem limb
def RetLH (x n:Nat) (w:World) (e:Ending) (w':World):Prop:=∃ v u k,e=.returned (.tuple #[v,u])/\IsS w .u64 v (digs 4294967296 (x % 4294967296^n))/\IsS w .u64 u (digs 4294967296 (x / 4294967296^n))/\w'=w.drewN k
theorem yY2 {x n m:Nat} (hm:m=min n (digs 4294967296 x).length):val 4294967296 ((digs 4294967296 x).take m)=x % 4294967296^n:=by
 have hlt:=zF8 (B:=4294967296) (by omega) x;rw [qR4 hlt (by omega),zF (by omega)];by_cases h:n<=(digs 4294967296 x).length
 ·rw [hm,Nat.min_eq_left h]
 ·rw [hm,Nat.min_eq_right (by omega)];have h1:=zK6 (B:=4294967296) (by omega) x;have h2:=bX9 (n:=4294967296) (by omega) (show (digs 4294967296 x).length<=n by omega);rw [Nat.mod_eq_of_lt h1,Nat.mod_eq_of_lt (by omega)]
theorem qR7 {x n m:Nat} (hm:m=min n (digs 4294967296 x).length):(digs 4294967296 x).drop m=digs 4294967296 (x / 4294967296^n):=by
 have hlt:=zF8 (B:=4294967296) (by omega) x
 have h0:val 4294967296 ((digs 4294967296 x).drop m)=x / 4294967296^n:=by
  rw [qK5 hlt (by omega),zF (by omega)];by_cases h:n<=(digs 4294967296 x).length
  ·rw [hm,Nat.min_eq_left h]
  ·rw [hm,Nat.min_eq_right (by omega)];have h1:=zK6 (B:=4294967296) (by omega) x;have h2:=bX9 (n:=4294967296) (by omega) (show (digs 4294967296 x).length<=n by omega);rw [Nat.div_eq_of_lt h1,Nat.div_eq_of_lt (by omega)]
 rw [<- h0,<- zN (by omega) (hlt.drop m)]
 generalize hd:(digs 4294967296 x).drop m=l
 rcases List.eq_nil_or_concat l with rfl|⟨l',d,rfl⟩
 ·rfl
 ·rw [List.concat_eq_append] at hd |-;refine (qZ7 l' ?_).symm;have hl:((digs 4294967296 x).drop m).length=l'.length+1:=by rw [hd];simp
  rw [bX2] at hl;refine qJ5 (B:=4294967296) (by omega) x (n:=m+l'.length) (d:=d) (by omega) ?_;rw [<- bW9,hd];simp
theorem yC (v:Value) (x:Nat) (nI:Int) (n:Nat) (w:World) (hn:nI=(n:Int)) (h:IsS w .u64 v (digs 4294967296 x)) (hl:(digs 4294967296 x).length<=1000000) (hn2:n<=1000000) :
  Calls prog 147 #[v,.int .i64 nI] w (RetLH x n w):=by
 subst hn;have hlt:=zF8 (B:=4294967296) (by omega) x;obtain ⟨m,hm⟩:∃ m,m=min n (digs 4294967296 x).length:=⟨_,rfl⟩
 have HT:Hid (trim ((digs 4294967296 x).take m)=digs 4294967296 (x % 4294967296^n)):=by
  show _=_;rw [zN (by omega) (hlt.take m),yY2 hm]
 have HD:=hQ9 (qR7 hm);have hml:m<=(digs 4294967296 x).length:=by omega
 generalize digs 4294967296 x=xl at h hl hlt HT HD hml hm
 obtain ⟨A,c,rfl,hc,hmx,hr⟩:=h;have hmx2:=hmx;unfold maxLen at hmx;rcases (show (n<=xl.length/\m=n)\/(xl.length<n/\m=xl.length) by omega) with ⟨hc1,rfl⟩|⟨hc1,rfl⟩
 ·have hmn:¬ ((xl.length:Int)<(m:Int)):=by omega
  clear hm
  go_enter func147,ntmps147
  have htk:(xl.take m).length=m:=by simp;omega
  have HK:=hQ9 htk;clear htk;go_wp2
  go_quiet ((go_at_call 148;exact Calls.quiet_of_same (qB3 A _ c (xl.take m) _ HK.out.symm (by rw [HK.out];omega) hmx2 (hr.take m))))
  go_wp2
  all_goals
   go_ret2;refine ⟨_,_,_,rfl,?_,?_,rfl⟩
   ·rw [<- HT.out];exact (hr.take m).isTrim (by rw [HK.out];omega) (by omega)
   ·rw [<- HD.out];first | exact hr.isDrop hc hmx2 hml | exact qK3 (by omega) (by omega) (by omega)
 ·have hmn:(xl.length:Int)<(n:Int):=by omega
  clear hm;have htk:xl.take xl.length=xl:=bX1;rw [htk] at HT;clear htk
  go_enter func147,ntmps147
  go_wp2
  go_quiet ((go_at_call 148;exact Calls.quiet_of_same (qB3 A _ c xl _ rfl hc hmx2 hr)))
  go_wp2
  all_goals
   go_ret2;refine ⟨_,_,_,rfl,?_,?_,rfl⟩
   ·rw [<- HT.out];exact hr.isTrim (by omega) (by omega)
   ·rw [<- HD.out];first | exact qK3 (by omega) (by omega) (by omega)
end nat
namespace mem
open Go.RowKit num
theorem Own.dropAt {w:World} {base:Nat} {e:TypeId} {k:IntKind} {g n cap:Nat} {l:List Nat} (h:Own w base e k (.slice (some ⟨g,0,none⟩) n cap) l) (d:Nat):Rd w (some ⟨g,d,none⟩) k (l.drop d):=by
 intro i x hx;rw [bW9] at hx;refine ⟨_,rfl,?_⟩;have ha:(⟨g,d,none⟩:Addr).add i=⟨g,d+i,none⟩:=by unfold Addr.add;split<;>simp_all
 rw [ha];exact h.cellAt hx
theorem yC0 (k:IntKind) (l m:List Nat) (off:Nat):splice (nv k l) off (nv k m)=nv k (splice l off m):=by simp [splice,nv]
section
variable {P:Program}
theorem yC1 {w:World} {ops:Array Oper} {rest:List Oper} {o:Oper} {a:Act} {Q:Exit->Act->World->Prop} (hgd:o.guard=none) (d s:Operand) {t:TypeId}
  (ho:o.op=.call { callee:=.builtin .copy,args:=#[d,s],argTypes:=#[t,t] })
  {base:Nat} {e:TypeId} {k:IntKind} (hT:SliceT P t e k) {g n:Nat} {l m:List Nat} (hown:Own w base e k (.slice (some ⟨g,0,none⟩) n n) l)
  {dp sp:Option Addr} {dLen dCap sLen sCap:Nat} (hd:a.eval d=.slice dp dLen dCap) (hs:a.eval s=.slice sp sLen sCap) (off:Nat) (hdp:0<m.length->dp=some ⟨g,off,none⟩) (hsl:sLen=m.length) (hle:m.length<=dLen) (hfit:off+m.length<=l.length) (hr:Rd w sp k m)
  (h:∀ w',Own w' base e k (.slice (some ⟨g,0,none⟩) n n) (splice l off m)->Below base w w' -> ∀ v,wpList P ops Q rest (a.put o.dst v) w'):wpList P ops Q (o :: rest) a w:=by
 obtain ⟨i,hi,_,hsz,_⟩:=hT.info;obtain ⟨hg,hb,hn,hm⟩:=hown.whole;refine wpList_copy_splice hgd d s t t ho e hT.und (by rw [hi];simp [hsz]) dp sp dLen dCap sLen sCap hd hs g off (nv k l) e hg (nv k m) (by rw [zS5];simp only [Nat.min_def];split<;>omega) ?_ (by rw [zS5,zS5];exact hfit) (qQ9 k m) base w (Below.refl _ _) hb ?_
 ·intro h0;rw [zS5] at h0;obtain ⟨ad,hA,_⟩:=hr 0 _ (zA3 h0);refine ⟨hdp h0,ad,hA,fun j v hj => ?_⟩;simp only [nv,zB1,Option.map_eq_some_iff] at hj;obtain ⟨x,hx,rfl⟩:=hj;obtain ⟨ad',h1,h2⟩:=hr j x hx;rw [hA] at h1;injection h1 with h1;subst h1;exact h2
 ·intro w' hw hbw;have hw:=hw.out;rw [yC0] at hw;exact h w' (yB6 hw hb (by rw [length_splice _ _ _ hfit];exact hn) hm) hbw _
theorem yY3 {w:World} {ops:Array Oper} {o:Oper} {a:Act} {K:Act->World->Prop} {Q:Exit->Act->World->Prop} {E:Prop} (hgd:o.guard=none) (d s:Operand) {t:TypeId}
  (ho:o.op=.call { callee:=.builtin .copy,args:=#[d,s],argTypes:=#[t,t] })
  {base:Nat} {e:TypeId} {k:IntKind} (hT:SliceT P t e k) {g n:Nat} {l m:List Nat} (hown:Own w base e k (.slice (some ⟨g,0,none⟩) n n) l)
  {dp sp:Option Addr} {dLen dCap sLen sCap:Nat} (hd:a.eval d=.slice dp dLen dCap) (hs:a.eval s=.slice sp sLen sCap) (off:Nat) (hdp:0<m.length->dp=some ⟨g,off,none⟩) (hsl:sLen=m.length) (hle:m.length<=dLen) (hfit:off+m.length<=l.length) (hr:Rd w sp k m)
  (h:∀ w',Own w' base e k (.slice (some ⟨g,0,none⟩) n n) (splice l off m)->Below base w w'->K (a.put o.dst (goInt m.length)) w') :
  if Region.wanted o (yielded ops a.tmps)=true then Oper.wp P o a w K Q else E:=by
 obtain ⟨i,hi,_,hsz,_⟩:=hT.info;obtain ⟨hg,hb,hn,hm⟩:=hown.whole;refine step_copy_splice hgd d s t t ho e hT.und (by rw [hi];simp [hsz]) dp sp dLen dCap sLen sCap hd hs g off (nv k l) e hg (nv k m) (by rw [zS5];simp only [Nat.min_def];split<;>omega) ?_ (by rw [zS5,zS5];exact hfit) (qQ9 k m) base w (Below.refl _ _) hb ?_
 ·intro h0;rw [zS5] at h0;obtain ⟨ad,hA,_⟩:=hr 0 _ (zA3 h0);refine ⟨hdp h0,ad,hA,fun j v hj => ?_⟩;simp only [nv,zB1,Option.map_eq_some_iff] at hj;obtain ⟨x,hx,rfl⟩:=hj;obtain ⟨ad',h1,h2⟩:=hr j x hx;rw [hA] at h1;injection h1 with h1;subst h1;exact h2
 ·intro w' hw hbw;have hw:=hw.out;rw [yC0] at hw
  have:=h w' (yB6 hw hb (by rw [length_splice _ _ _ hfit];exact hn) hm) hbw
  rwa [zS5]
end
end mem
namespace nat
open Go.RowKit num mem limb
theorem yC2 {x h:Nat} (hh:(digs 4294967296 x).length<=2*h):(digs 4294967296 (x % 4294967296^h)).length<=h/\(digs 4294967296 (x / 4294967296^h)).length<=(digs 4294967296 x).length-h/\(digs 4294967296 (x % 4294967296^h+x / 4294967296^h)).length<=h+1:=by
 have hp:0<4294967296^h:=Nat.pow_pos (by omega);have h1:x % 4294967296^h<4294967296^h:=Nat.mod_lt _ hp
 have h2:(digs 4294967296 (x / 4294967296^h)).length<=(digs 4294967296 x).length-h:=by
  rw [<- qR7 (m:=min h (digs 4294967296 x).length) rfl,bX2];omega
 have h3:=zK6 (B:=4294967296) (by omega) (x / 4294967296^h);have h4:=bX9 (n:=4294967296) (by omega) (show (digs 4294967296 (x / 4294967296^h)).length<=h by omega);refine ⟨zG7 (by omega) h1,h2,zG7 (by omega) ?_⟩;rw [bY1];omega
def ByC (least K:Nat):Prop:=∀ (x y:Nat) (v u:Value) (w:World),(digs 4294967296 x).length<K->(digs 4294967296 y).length<K->IsS w .u64 v (digs 4294967296 x)->IsS w .u64 u (digs 4294967296 y) ->
 Calls prog 127 #[v,u,.int .i64 (least:Int)] w (zD7 .u64 (digs 4294967296 (x*y)) w)
theorem yY4 (least:Nat) (hl2:least<=1000) (x y:Nat) (v u:Value) (w:World) (hx:(digs 4294967296 x).length<=100000) (hy:(digs 4294967296 y).length<=100000) (h:IsS w .u64 v (digs 4294967296 x)) (h':IsS w .u64 u (digs 4294967296 y))
  (hf:(digs 4294967296 x).length<least\/(digs 4294967296 y).length<least) :
  Calls prog 127 #[v,u,.int .i64 (least:Int)] w (zD7 .u64 (digs 4294967296 (x*y)) w):=by
 obtain ⟨A1,c1,rfl,_⟩:=id h;obtain ⟨A2,c2,rfl,_⟩:=id h';by_cases hle:(digs 4294967296 x).length<=(digs 4294967296 y).length
 ·have hlt:(digs 4294967296 x).length<least:=by omega
  clear hf
  go_enter func127,ntmps127;go_wp2_with fail
  all_goals
   refine (yB8 _ _ x y _ h h' (by omega) (by omega) (x*y) rfl).mono ?_;rintro e w1 ⟨v1,rfl,k1,f1,b1⟩;go_wp2;go_ret;exact ⟨_,rfl,k1,f1,b1⟩
 ·have hlt:(digs 4294967296 y).length<least:=by omega
  clear hf
  go_enter func127,ntmps127;go_wp2_with fail
  all_goals
   refine (yB8 _ _ x y _ h h' (by omega) (by omega) (x*y) rfl).mono ?_;rintro e w1 ⟨v1,rfl,k1,f1,b1⟩;go_wp2;go_ret;exact ⟨_,rfl,k1,f1,b1⟩
theorem zY5 (a b:Nat):(digs 4294967296 (a*b)).length<=(digs 4294967296 a).length+(digs 4294967296 b).length:=by
 refine zG7 (by omega) ?_;rw [Nat.pow_add];exact Nat.mul_lt_mul'' (zK6 (by omega) a) (zK6 (by omega) b)
theorem yY5 (least K:Nat) (h4:4<=least) (hl2:least<=1000) (hK:K<=100000) (ih:ByC least K):ByC least (K+1):=by
 intro x y v u w hx hy h h';by_cases hf:(digs 4294967296 x).length<least\/(digs 4294967296 y).length<least
 ·exact yY4 least hl2 x y v u w (by omega) (by omega) h h' hf
 have hf1:least<=(digs 4294967296 x).length:=by omega
 have hf2:least<=(digs 4294967296 y).length:=by omega
 clear hf;obtain ⟨d,hd⟩:∃ d,d=(max (digs 4294967296 x).length (digs 4294967296 y).length+1) / 2:=⟨_,rfl⟩;have e1:(digs 4294967296 x).length<=2*d:=by omega
 have e2:(digs 4294967296 y).length<=2*d:=by omega
 have e3:d+1<K:=by omega
 have e4:2*d<(digs 4294967296 x).length+(digs 4294967296 y).length:=by omega
 have e5:2<=d:=by omega
 obtain ⟨a1,a2,a3⟩:=yC2 e1;obtain ⟨a4,a5,a6⟩:=yC2 e2;have gx:=zK6 (B:=4294967296) (by omega) x;have gy:=zK6 (B:=4294967296) (by omega) y;obtain ⟨x0,hx0⟩:∃ t,t=x % 4294967296^d:=⟨_,rfl⟩;obtain ⟨x1,hx1⟩:∃ t,t=x / 4294967296^d:=⟨_,rfl⟩;obtain ⟨y0,hy0⟩:∃ t,t=y % 4294967296^d:=⟨_,rfl⟩;obtain ⟨y1,hy1⟩:∃ t,t=y / 4294967296^d:=⟨_,rfl⟩;obtain ⟨lo,hlo⟩:∃ t,t=x0*y0:=⟨_,rfl⟩;obtain ⟨hi,hhi⟩:∃ t,t=x1*y1:=⟨_,rfl⟩;obtain ⟨mid,hmid⟩:∃ t,t=x0*y1+x1*y0:=⟨_,rfl⟩;obtain ⟨al,hal⟩:∃ t,t=(x0+x1)*(y0+y1):=⟨_,rfl⟩;obtain ⟨q,hq⟩:∃ q,q=(lo+4294967296^(2*d)*hi) / 4294967296^d:=⟨_,rfl⟩
 have C:Cuts 4294967296 x y d (digs 4294967296 x).length (digs 4294967296 y).length lo hi mid:=by
  subst hx0;subst hx1;subst hy0;subst hy1;exact ⟨hlo,hhi,hmid,gx,gy,by omega⟩
 rw [<- hx0] at a1 a3;rw [<- hx1] at a2 a3;rw [<- hy0] at a4 a6;rw [<- hy1] at a5 a6;have c1:lo+hi+mid=al:=by rw [hal,hx0,hx1,hy0,hy1];exact C.all.symm
 have c2:(digs 4294967296 al).length<=2*d+2:=by rw [hal];have:=zY5 (x0+x1) (y0+y1);omega
 have c3:(digs 4294967296 (lo+hi)).length<=2*d+2:=by have:=zG1 (B:=4294967296) (by omega) (show lo+hi<=al by omega);omega
 have c4:=C.lo_len (by omega);have c5:=C.hi_len (by omega);have c6:=C.t_len (by omega) (t:=q+mid) (by rw [hq]);have c7:=C.one (by omega);have c8:=C.two (by omega);have c9:=C.mids (by omega);rw [<- hq] at c9;have c10:=C.three (by omega) (t:=q+mid) (by rw [hq]);have HX0:=hQ9 hx0;have HX1:=hQ9 hx1;have HY0:=hQ9 hy0;have HY1:=hQ9 hy1;have HLO:=hQ9 hlo;have HHI:=hQ9 hhi;have HAL:=hQ9 hal;have HMID:Hid (mid=al-(lo+hi)):=by show _=_;omega
 have HLE:Hid (lo+hi<=al):=by show _<=_;omega
 have H7:=hQ9 c7;have H8:=hQ9 c8;have H9:=hQ9 c9;have H10:=hQ9 c10;clear hx0 hx1 hy0 hy1 hlo hhi hal hmid hq gx gy C c1 c7 c8 c9 c10;have HD:=hQ9 hd;clear hd;obtain ⟨A1,C1,rfl,_⟩:=id h;obtain ⟨A2,C2,rfl,_⟩:=id h';have hcases:((digs 4294967296 x).length<(digs 4294967296 y).length/\(((digs 4294967296 y).length+1:Int) / 2=(d:Int)))\/(((digs 4294967296 y).length<=(digs 4294967296 x).length/\(digs 4294967296 x).length<=(digs 4294967296 y).length)/\(((digs 4294967296 x).length+1:Int) / 2=(d:Int)))\/((digs 4294967296 y).length<(digs 4294967296 x).length/\(((digs 4294967296 x).length+1:Int) / 2=(d:Int))):=by have:=HD.out;omega
 rcases hcases with ⟨hle,hhI⟩|⟨⟨hle,hle2⟩,hhI⟩|⟨hle,hhI⟩
 all_goals
  go_enter func127,ntmps127;go_wp2_with fail
  rw [hhI];have HH:=hQ9 hhI;clear hhI;have B0:Below w.heap.size w w:=Below.refl _ _;refine (yC _ x _ d _ rfl h (by omega) (by omega)).mono ?_;rintro e w1 ⟨vx0,vx1,n1,rfl,kx0,kx1,rfl⟩;rw [<- HX0.out] at kx0;rw [<- HX1.out] at kx1;replace B0:=zP0 B0 n1;go_wp2_with fail
  refine (yC _ y _ d _ rfl (h'.bQ B0) (by omega) (by omega)).mono ?_;rintro e w2 ⟨vy0,vy1,n2,rfl,ky0,ky1,rfl⟩;rw [<- HY0.out] at ky0;rw [<- HY1.out] at ky1;replace ky0:IsS w .u64 vy0 (digs 4294967296 y0):=ky0;replace ky1:IsS w .u64 vy1 (digs 4294967296 y1):=ky1;replace B0:Below w.heap.size w (w.drewN (n1+n2)):=zP0 (Below.refl _ _) _;replace kx0:=kx0.bQ B0;replace kx1:=kx1.bQ B0;replace ky0:=ky0.bQ B0;replace ky1:=ky1.bQ B0;go_wp2_with fail
  refine (ih x0 y0 _ _ _ (by omega) (by omega) kx0 ky0).mono ?_;rintro e w4 ⟨vl,rfl,kl,fl,b4⟩;rw [<- HLO.out] at kl;replace B0:=B0.trans (b4.mono B0.size);replace kx0:=kx0.bQ b4;replace kx1:=kx1.bQ b4;replace ky0:=ky0.bQ b4;replace ky1:=ky1.bQ b4;go_wp2_with fail
  refine (ih x1 y1 _ _ _ (by omega) (by omega) kx1 ky1).mono ?_;rintro e w5 ⟨vh,rfl,kh,fh,b5⟩;rw [<- HHI.out] at kh;replace B0:=B0.trans (b5.mono B0.size);replace kx0:=kx0.bQ b5;replace kx1:=kx1.bQ b5;replace ky0:=ky0.bQ b5;replace ky1:=ky1.bQ b5;replace kl:=kl.bQ b5;go_wp2_with fail
  refine (add_any _ _ x0 x1 _ kx0 kx1 (x0+x1) rfl (by omega)).mono ?_;rintro e w6 ⟨vsx,rfl,ksx,fsx,b6⟩;replace B0:=B0.trans (b6.mono B0.size);replace ky0:=ky0.bQ b6;replace ky1:=ky1.bQ b6;replace kl:=kl.bQ b6;replace kh:=kh.bQ b6;go_wp2_with fail
  refine (add_any _ _ y0 y1 _ ky0 ky1 (y0+y1) rfl (by omega)).mono ?_;rintro e w7 ⟨vsy,rfl,ksy,fsy,b7⟩;replace B0:=B0.trans (b7.mono B0.size);replace ksx:=ksx.bQ b7;replace kl:=kl.bQ b7;replace kh:=kh.bQ b7;go_wp2_with fail
  refine (ih (x0+x1) (y0+y1) _ _ _ (by omega) (by omega) ksx ksy).mono ?_;rintro e w8 ⟨va,rfl,ka,fa,b8⟩;rw [<- HAL.out] at ka;replace B0:=B0.trans (b8.mono B0.size);replace kl:=kl.bQ b8;replace kh:=kh.bQ b8;go_wp2_with fail
  refine (add_any _ _ lo hi _ kl kh (lo+hi) rfl (by omega)).mono ?_;rintro e w9 ⟨vs,rfl,ks,fs,b9⟩;replace B0:=B0.trans (b9.mono B0.size);replace ka:=ka.bQ b9;replace kl:=kl.bQ b9;replace kh:=kh.bQ b9;go_wp2_with fail
  refine (qF1 _ _ al (lo+hi) _ ka ks (by omega) HLE.out mid HMID.out).mono ?_;rintro e w10 ⟨vm,rfl,km,fm,b10⟩;replace B0:=B0.trans (b10.mono B0.size);replace kl:=kl.bQ b10;replace kh:=kh.bQ b10;obtain ⟨Al,Cl,rfl,hcl,hml,hrl⟩:=kl;obtain ⟨Ah,Ch,rfl,hch,hmh,hrh⟩:=kh;clear b4 b5 b6 b7 b8 b9 b10;have hfit1:0+(digs 4294967296 lo).length<=(zB ((digs 4294967296 x).length+(digs 4294967296 y).length) 0).length:=by simp;omega
  have HF1:=hQ9 hfit1;have hfit2:2*d+(digs 4294967296 hi).length<=(cut1 4294967296 ((digs 4294967296 x).length+(digs 4294967296 y).length) lo).length:=by rw [H7.out.2.1];omega
  have HF2:=hQ9 hfit2;clear hfit1 hfit2
  go_wp2_with (first
   | (at_make;refine zR4 rfl _ _ rfl zK1 ((digs 4294967296 x).length+(digs 4294967296 y).length) rfl rfl (by omega) (by omega) (by omega) (zB3 _) ?_;intro w11 hown11 hb11 hs11)
   | ((with_reducible refine yC1 rfl (.tmp 77) (.tmp 78) rfl zK1 hown11 rfl rfl 0 (fun _=>rfl) rfl (by omega) HF1.out (hrl.bQ hb11) ?_);intro w12 hown12 hb12 r12;have hown12b:Own w12 _ 75 .u64 _ (cut1 4294967296 ((digs 4294967296 x).length+(digs 4294967296 y).length) lo):=hown12;have hb12b:=hb11.trans hb12)
   | ((with_reducible refine yC1 rfl (.tmp 83) (.tmp 84) rfl zK1 hown12b rfl rfl (2*d) (fun _=>rfl) rfl (by omega) HF2.out (hrh.bQ hb12b) ?_);intro w13 hown13 hb13 r13;have hown13b:Own w13 _ 75 .u64 _ (zQ2 4294967296 ((digs 4294967296 x).length+(digs 4294967296 y).length) d lo hi):=hown13;have hb13b:=hb12b.trans hb13))
  have hd1:=hown13b.dropAt d
  have hq1:trim ((zQ2 4294967296 ((digs 4294967296 x).length+(digs 4294967296 y).length) d lo hi).drop d)=digs 4294967296 q:=by
   rw [zN (by omega) (H8.out.1.drop d),H9.out]
  have hdl:(digs 4294967296 x).length+(digs 4294967296 y).length-d=((zQ2 4294967296 ((digs 4294967296 x).length+(digs 4294967296 y).length) d lo hi).drop d).length:=by rw [bX2,H8.out.2.1]
  have kq:=hd1.isTrim (c:=(digs 4294967296 x).length+(digs 4294967296 y).length-d) (by omega) (by unfold maxLen;omega);rw [hq1] at kq;have HQ1:=hQ9 hq1;have HDL:=hQ9 hdl;replace km:=km.bQ hb13b;have hfit3:d+(digs 4294967296 (q+mid)).length<=(zQ2 4294967296 ((digs 4294967296 x).length+(digs 4294967296 y).length) d lo hi).length:=by rw [H8.out.2.1];omega
  have HF3:=hQ9 hfit3;clear hq1 hdl hfit3;have hdI:(d:Int)<=((digs 4294967296 x).length:Int)+((digs 4294967296 y).length:Int):=by omega
  have hdN:¬ (digs 4294967296 x).length+(digs 4294967296 y).length=d:=by omega
  go_region_law (first
   | (refine yY3 rfl (.tmp 88) (.tmp 94) rfl zK1 hown15 (by rfl) (by rfl) d (fun _=>by rfl) rfl (by omega) HF3.out hrt ?_;intro w16 hown16 hb16)
   | (go_simp;go_at_call 148;refine (qB3 _ _ _ _ _ HDL.out (by rw [<- HDL.out];omega) (by unfold maxLen;omega) (by exact hd1)).mono ?_;rintro e w14 ⟨rfl,rfl⟩;rw [HQ1.out])
   | (go_simp;go_at_call 144;refine (add_any _ _ q mid _ (by exact kq) (by exact km) (q+mid) rfl (by omega)).mono ?_;rintro e w15 ⟨vt,rfl,kt,ft,b15⟩;obtain ⟨At,Ct,rfl,hct,hmt,hrt⟩:=kt;have hown15:=Own.bQ (by exact hown13b) b15;have hb15:=(by first | exact hb13b.trans (b15.mono hb13b.size) | exact hb13b.drew.trans (b15.mono hb13b.drew.size) | exact hb13b.drew.drew.trans (b15.mono hb13b.drew.drew.size):Below w10.heap.size w10 w15)))
  all_goals
   have hownF:Own w16 w10.heap.size 75 .u64 (.slice (some ⟨w10.heap.size,0,none⟩) ((digs 4294967296 x).length+(digs 4294967296 y).length) ((digs 4294967296 x).length+(digs 4294967296 y).length)) (qF3 4294967296 ((digs 4294967296 x).length+(digs 4294967296 y).length) d lo hi (q+mid)):=hown16;have hT:trim (qF3 4294967296 ((digs 4294967296 x).length+(digs 4294967296 y).length) d lo hi (q+mid))=digs 4294967296 (x*y):=by rw [zN (by omega) H10.out.1,<- H10.out.2]
   have HT:=hQ9 hT;have hlen:=hownF.len_eq;have hmx:=hownF.whole.2.2.2;have hF0:=hownF.dropAt 0;rw [List.drop_zero] at hF0;have HLN:=hQ9 hlen;clear hT hlen;go_wp2_with fail
   refine (qB3 _ _ _ _ _ HLN.out (by have:=HLN.out;omega) hmx hF0).mono ?_;rintro e w17 ⟨rfl,rfl⟩;go_wp2;go_ret;refine ⟨_,rfl,by rw [<- HT.out];exact hF0.isTrim (by have:=HLN.out;omega) hmx,(hownF.fresh.mono B0.size).cut _ _,B0.trans ((hb15.trans hb16).mono B0.size)⟩
theorem yY6 (least:Nat) (h4:4<=least) (hl2:least<=1000) (K:Nat) (hK:K<=100001):ByC least K:=by
 induction K with
 | zero=>intro x y v u w hx;omega
 | succ K ih=>exact yY5 least K h4 hl2 (by omega) (ih (by omega))
theorem mul_any (v u:Value) (x y:Nat) (w:World) (h:IsS w .u64 v (digs 4294967296 x)) (h':IsS w .u64 u (digs 4294967296 y)) (hl:(digs 4294967296 x).length<=100000) (hl':(digs 4294967296 y).length<=100000) (z:Nat) (hz:z=x*y) :
  Calls prog 113 #[v,u] w (zD7 .u64 (digs 4294967296 z) w):=by
 subst hz;obtain ⟨A1,c1,rfl,_⟩:=id h;obtain ⟨A2,c2,rfl,_⟩:=id h'
 go_enter func113,ntmps113;go_wp2_with fail
 refine (yY6 160 (by omega) (by omega) 100001 (by omega) x y _ _ _ (by omega) (by omega) h h').mono ?_;rintro e w1 ⟨v1,rfl,k1,f1,b1⟩;go_wp2;go_ret;exact ⟨_,rfl,k1,f1,b1⟩
theorem zV7 (v:Value) (l:List Nat) (w:World) (h:IsS w .u64 v l) (hl:l.length<=1000000) :
  Calls prog 112 #[v] w (zD7 .u64 l w):=by
 obtain ⟨A,c,rfl,hc,hm,hr⟩:=h;rcases A with _ | ad
 ·have hl0:l=[]:=by
   rcases l with _ | ⟨d,l⟩
   ·rfl
   ·obtain ⟨ad,h,_⟩:=hr 0 d (by simp);cases h
  subst hl0;have hnil:=fun w'=>Lib.run_eql_slice_nil (P:=prog) w' 40 75 none 0 c 0 0 underlying40
  go_enter func112,ntmps112
  go_wp2;go_ret;exact ⟨_,rfl,qJ9 _ _,yB _,Below.refl _ _⟩
 ·have hnil:=fun w'=>Lib.run_eql_slice_nil (P:=prog) w' 40 75 (some ad) l.length c 0 0 underlying40
  go_enter func112,ntmps112
  go_wp2_with (at_builtin;refine qB rfl (.tmp 5) (.tmp 6) rfl zK1 rfl (zP w w.heap.size _ .u64 (zB3 _)) rfl (news:=l) rfl (hr.bQ (zC9 (zB3 _) _)) (by simp;omega) (by simp) ?_;intro v' w1 hown1 hb1 hg1)
  go_ret;exact ⟨_,rfl,by have:=hown1.isS;rwa [List.nil_append] at this,hown1.fresh,(zC9 (zB3 _) _).trans hb1⟩
theorem IsV.bQ {w w':World} {v:Value} {vs:List Value} (h:IsV w v vs) (hb:Below w.heap.size w w'):IsV w' v vs:=by
 obtain ⟨A,c,e,h1,h2⟩:=h;refine ⟨A,c,e,h1,fun i u hu => ?_⟩;obtain ⟨ad,ha,hc⟩:=h2 i u hu;exact ⟨ad,ha,(hb.cell (bQ0 w _ hc)).trans hc⟩
end nat
namespace nat
open Go.RowKit Go.ChangeShapes Go.WideShapes Go.ChangeAt num mem limb
theorem yC3 {n:Int} (h:(Lit.int .u64 n).wf=true):0<=n/\n<=18446744073709551615:=bounds_u64 h
def zY6 (l:List Nat) (most:Nat):Nat:=val 4294967296 (zN5 l most)
theorem yY7 (l:List Nat) (most:Nat):zY6 l most<4294967296^most :=
 bY2 (zM8 (yA6 l most)) (bX9 (by omega) (yW l most))
theorem qR8 (l:List Nat) (most:Nat):(digs 4294967296 (zY6 l most)).length<=most:=zG7 (by omega) (yY7 l most)
theorem yC4 (v:Value) (l:List Nat) (mI:Int) (most:Nat) (w:World) (hmI:mI=(most:Int)) (h:IsS w .u64 v l) (hu:Lt 18446744073709551616 l) (hmost:most<=1000000) :
  Calls prog 103 #[v,.int .i64 mI] w (zD7 .u64 (digs 4294967296 (zY6 l most)) w):=by
 have:=yW2 v l mI most w hmI h hu hmost
 rw [zN (by omega) (yA6 l most)] at this;exact this
theorem yC5 (x:Nat):Lt 18446744073709551616 (digs 4294967296 x):=(zF8 (by omega) x).more (by omega)
theorem digs_one (a:Nat) (ha:a<4294967296) (h0:0<a):digs 4294967296 a=[a]:=by
 rw [zU (by omega) h0,show a % 4294967296=a from by omega,show a / 4294967296=0 from by omega,zJ]
end nat
namespace nat
open Go.RowKit num mem limb
theorem yY8 {x y:Nat} : digs 4294967296 x=digs 4294967296 y ↔ x=y:=by
 constructor
 ·intro h;have e:=congrArg (val 4294967296) h;rwa [zF (by omega),zF (by omega)] at e
 ·rintro rfl;rfl
theorem yY9 (x y:Nat):zQ1 (digs 4294967296 x) (digs 4294967296 y)=decide (x=y):=by
 unfold zQ1;by_cases h:x=y
 ·subst h;simp
 ·rw [decide_eq_false h,decide_eq_false (fun e=>h (yY8.1 e))]
end nat
namespace mem
open Go.RowKit num
def zD1 (w:World) (base:Nat) (e:TypeId) (v:Value) (vs:List Value):Prop:=w.ownsRow base e 1 v vs.length vs
def Far (v u:Value):Prop:=∀ ad n c,u=.slice (some ad) n c->0<n->some ad.block≠v.ownBlock
def qK7 (w w':World) (v v':Value):Prop:=∀ (k:IntKind) (u:Value) (l:List Nat),IsS w k u l->Far v u->IsS w' k u l/\Far v' u
theorem zD1.bQ {w w':World} {base:Nat} {e:TypeId} {v:Value} {vs:List Value} (h:zD1 w base e v vs) (hb:Below w.heap.size w w'):zD1 w' base e v vs :=
 World.ownsRow.kept (row:=none) h ⟨hb.os,hb.tape,hb.output,hb.size,fun i hi _=>hb.block i hi⟩ (by cases hv:v.ownBlock<;>simp)
theorem zD1.under {w:World} {base:Nat} {e:TypeId} {v:Value} {vs:List Value} (h:zD1 w base e v vs):∀ g,v.ownBlock=some g->g<w.heap.size:=fun g hg=>(World.ownsRow.lt h g hg).2
theorem zD1.base_le {w:World} {base:Nat} {e:TypeId} {v:Value} {vs:List Value} (h:zD1 w base e v vs):∀ g,v.ownBlock=some g->base<=g:=fun g hg=>(World.ownsRow.lt h g hg).1
theorem yC6 (w:World) (base:Nat) (e:TypeId) (hb:base<=w.heap.size):zD1 (w.alloc (.cells #[] e)) base e (.slice (some ⟨w.heap.size,0,none⟩) 0 0) []:=by
 have h:=World.ownsRow_lit (e:=e) (size:=1) w #[] 0 hb (by simp) (by simp);simpa [zD1] using h
theorem zE5.far {B:Nat} {v u:Value} (h:zE5 B u) (hv:∀ g,v.ownBlock=some g->g<B):Far v u:=by
 rintro ad n c rfl _ e;have h1:=hv _ e.symm;have h2:=h ad n c rfl;omega
theorem IsS.farOld {w:World} {k:IntKind} {v u:Value} {l:List Nat} (h:IsS w k u l) (hv:∀ g,v.ownBlock=some g->w.heap.size<=g):Far v u:=by
 rintro ad n c rfl hn e;obtain ⟨A,c',e1,h1,h2,h3⟩:=h;injection e1 with e1 e2 e3;subst e1;subst e2;obtain ⟨ad',he,hc⟩:=h3 0 _ (zA3 hn);injection he with he;subst he;have h4:=bQ0 w _ hc;rw [block_add] at h4;have h5:=hv _ e.symm;omega
theorem IsS.farKept {w w':World} {k:IntKind} {u:Value} {l:List Nat} {row:Option Nat} (h:IsS w k u l) (hf:∀ ad n c,u=.slice (some ad) n c->0<n->some ad.block≠row) (hg:w.grownBy w' row):IsS w' k u l:=by
 obtain ⟨A,c,rfl,h1,h2,h3⟩:=h;refine ⟨A,c,rfl,h1,h2,fun i d hd => ?_⟩;obtain ⟨ad,rfl,hc⟩:=h3 i d hd;have hi:i<l.length:=(zA4.1 hd).1;refine ⟨ad,rfl,hg.cell hc ?_⟩;rw [block_add];exact hf ad _ _ rfl (by omega)
section
variable {P:Program}
end
end mem
namespace nat
open Go.RowKit Go.ChangeShapes Go.WideShapes Go.ChangeAt num mem limb
end nat
namespace nat
open Go.RowKit num mem limb
theorem qR9 (x:Nat):(digs 10000 x).length<=3*(digs 4294967296 x).length:=yA0 (zK6 (by omega) x)
theorem yC7 (x y:Nat):(digs 4294967296 (x+y)).length<=(digs 4294967296 x).length+(digs 4294967296 y).length+1:=by
 refine zG7 (by omega) ?_;have h1:=zK6 (B:=4294967296) (by omega) x;have h2:=zK6 (B:=4294967296) (by omega) y;have h3:=bX9 (n:=4294967296) (by omega) (show (digs 4294967296 x).length<=(digs 4294967296 x).length+(digs 4294967296 y).length by omega);have h4:=bX9 (n:=4294967296) (by omega) (show (digs 4294967296 y).length<=(digs 4294967296 x).length+(digs 4294967296 y).length by omega);rw [bY1];omega
end nat
end Go.Proofs.YtbfflcpmagjlnaaGreat
