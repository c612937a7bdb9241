/- Tables of fractions as functions: what they make nought, steps and that steps are one; determinants by the first row, and what changes of rows do to t. Condition: as each says. -/
import Derived.Test.YtagaabooccnamaaGreatKB3
open Go.Proofs.Tryz
open Go.Lib renaming hid -> hQ9
set_option linter.unusedVariables false
set_option linter.unusedSimpArgs false
set_option maxRecDepth 100000
set_option maxHeartbeats 3200000
open And renaming intro -> zA
open List renaming setIfInBounds_toArray -> zA0, set_cons_succ -> zA1, set_cons_zero -> zA2, getElem?_eq_getElem -> zA3, getElem?_eq_some_iff -> zA4, mem_of_getElem? -> zA5, getD_eq_getElem?_getD -> zA6, take_of_length_le -> zA7, length_append -> zA8, length_map -> zA9, replicate -> zB, getElem?_append_left -> zB0, getElem?_map -> zB1, length_take -> zB2, length_set -> zB3
open Nat renaming le_refl -> zB4, le_trans -> zB5, mul_assoc -> zB6
namespace Go.Proofs.YtagaabooccnamaaGreat.rat
open Go.RowKit num mem nat txt str flow whl
def zC5:Nat->(Nat->Rat)->Rat
 | 0,_=>0
 | n+1,f=>zC5 n f+f n
theorem zH1:∀ {n:Nat} {f g:Nat->Rat},(∀ i,i<n->f i=g i)->zC5 n f=zC5 n g
  | 0,_,_,_=>rfl
  | n + 1, f, g, h => by
    show zC5 n f+f n=zC5 n g+g n
    rw [zH1 (fun i hi=>h i (by omega)),h n (by omega)]
theorem zW2:∀ (n:Nat) (f g:Nat->Rat),zC5 n (fun i=>f i+g i)=zC5 n f+zC5 n g
  | 0,_,_=>by show (0:Rat)=0+0;grind
  | n + 1, f, g => by
    show zC5 n _+(f n+g n)=(zC5 n f+f n)+(zC5 n g+g n)
    rw [zW2 n f g];grind
theorem zL4:∀ (n:Nat) (c:Rat) (f:Nat->Rat),zC5 n (fun i=>c*f i)=c*zC5 n f
  | 0,c,_=>by show (0:Rat)=c*0;grind
  | n + 1, c, f => by
    show zC5 n _+c*f n=c*(zC5 n f+f n)
    rw [zL4 n c f];grind
theorem zY9:∀ {n:Nat} {f:Nat->Rat},(∀ i,i<n->f i=0)->zC5 n f=0
  | 0,_,_=>rfl
  | n + 1, f, h => by
    show zC5 n f+f n=0
    rw [zY9 (fun i hi=>h i (by omega)),h n (by omega)];grind
theorem zR1:∀ {n:Nat} {f:Nat->Rat} {a:Nat},a<n->(∀ i,i<n->i≠a->f i=0)->zC5 n f=f a
  | 0,_,_,h,_=>by omega
  | n + 1, f, a, ha, h => by
    show zC5 n f+f n=f a
    by_cases e:a=n
    · subst e;rw [zY9 (fun i hi=>h i (by omega) (by omega))];grind
    · rw [zR1 (a:=a) (by omega) (fun i hi hn=>h i (by omega) hn),h n (by omega) (fun e'=>e e'.symm)];grind
theorem yY2 {n:Nat} {f:Nat->Rat} {a b:Nat} (ha:a<n) (hb:b<n) (hab:a≠b) (h:∀ i,i<n->i≠a->i≠b->f i=0):zC5 n f=f a+f b:=by
 have e:zC5 n f=zC5 n (fun i=>(if i=a then f a else 0)+(if i=b then f b else 0)):=zH1 fun i hi=>by
  by_cases e1:i=a
  ·subst e1;rw [if_pos rfl,if_neg hab];grind
  ·by_cases e2:i=b
   ·subst e2;rw [if_neg e1,if_pos rfl];grind
   ·rw [if_neg e1,if_neg e2,h i hi e1 e2];grind
 rw [e,zW2,zR1 (a:=a) ha (fun i _ hn=>if_neg hn),zR1 (a:=b) hb (fun i _ hn=>if_neg hn),if_pos rfl,if_pos rfl]
theorem yE5:∀ (n m:Nat) (f:Nat->Nat->Rat),zC5 n (fun i=>zC5 m (f i))=zC5 m (fun j=>zC5 n (fun i=>f i j))
  | 0,m,f=>(zY9 fun _ _=>rfl).symm
  | n + 1, m, f => by
    show zC5 n _+zC5 m (f n)=_
    rw [yE5 n m f,<- zW2]
    rfl
def zW3 (n C:Nat) (M:Nat->Nat->Rat) (x:Nat->Rat):Prop:=∀ i,i<n->zC5 C (fun j=>M i j*x j)=0
def zH2 (n C:Nat) (M M':Nat->Nat->Rat):Prop:=∀ x,zW3 n C M x ↔ zW3 n C M' x
theorem zH2.refl (n C:Nat) (M:Nat->Nat->Rat):zH2 n C M M:=fun _=>Iff.rfl
theorem zH2.trans {n C:Nat} {M M' M'':Nat->Nat->Rat} (h:zH2 n C M M') (h':zH2 n C M' M''):zH2 n C M M'':=fun x=>(h x).trans (h' x)
theorem zH2.symm {n C:Nat} {M M':Nat->Nat->Rat} (h:zH2 n C M M'):zH2 n C M' M:=fun x=>(h x).symm
theorem zZ {n C:Nat} {M M':Nat->Nat->Rat} (h:∀ i j,i<n->j<C->M i j=M' i j):zH2 n C M M':=fun x=>by
 have e:∀ i,i<n->zC5 C (fun j=>M i j*x j)=zC5 C (fun j=>M' i j*x j):=fun i hi=>zH1 fun j hj=>by rw [h i j hi hj]
 exact ⟨fun k i hi=>(e i hi) ▸ k i hi,fun k i hi=>(e i hi).symm ▸ k i hi⟩
def zE9 (M:Nat->Nat->Rat) (a b:Nat):Nat->Nat->Rat:=fun i=>if i=a then M b else if i=b then M a else M i
def zG0 (M:Nat->Nat->Rat) (a:Nat) (c:Rat):Nat->Nat->Rat:=fun i j=>if i=a then M i j*c else M i j
def zJ1 (M:Nat->Nat->Rat) (p:Nat) (t:Nat->Rat):Nat->Nat->Rat:=fun i j=>M i j-t i*M p j
theorem yE6 {n C:Nat} (M:Nat->Nat->Rat) {a b:Nat} (ha:a<n) (hb:b<n):zH2 n C M (zE9 M a b):=fun x=>by
 constructor
 ·intro h i hi;unfold zE9;by_cases e1:i=a
  ·simp only [if_pos e1];exact h b hb
  ·by_cases e2:i=b
   ·simp only [if_neg e1,if_pos e2];exact h a ha
   ·simp only [if_neg e1,if_neg e2];exact h i hi
 ·intro h i hi;by_cases e1:i=a
  ·have:=h b hb
   unfold zE9 at this;by_cases e:b=a
   ·rw [if_pos e] at this;rw [e1,<- e];exact this
   ·rw [if_neg e,if_pos rfl] at this;rw [e1];exact this
  ·by_cases e2:i=b
   ·have:=h a ha
    unfold zE9 at this;rw [if_pos rfl] at this;rw [e2];exact this
   ·have:=h i hi
    unfold zE9 at this;rw [if_neg e1,if_neg e2] at this;exact this
theorem yE7 {n C:Nat} (M:Nat->Nat->Rat) {a:Nat} {c:Rat} (hc:c≠0):zH2 n C M (zG0 M a c):=fun x=>by
 have e:∀ i,zC5 C (fun j=>zG0 M a c i j*x j)=(if i=a then c else 1)*zC5 C (fun j=>M i j*x j):=fun i=>by
  rw [<- zL4];refine zH1 fun j _ => ?_;unfold zG0;by_cases e1:i=a
  ·rw [if_pos e1,if_pos e1];grind
  ·rw [if_neg e1,if_neg e1];grind
 constructor
 ·intro h i hi;rw [e i,h i hi];grind
 ·intro h i hi
  have:=h i hi
  rw [e i] at this;by_cases e1:i=a
  ·rw [if_pos e1] at this;rcases Rat.mul_eq_zero.1 this with h0 | h0
   ·exact absurd h0 hc
   ·exact h0
  ·rw [if_neg e1] at this;grind
theorem qR8 {C:Nat} (M:Nat->Nat->Rat) (p i:Nat) (t:Nat->Rat) (x:Nat->Rat):zC5 C (fun j=>zJ1 M p t i j*x j)=zC5 C (fun j=>M i j*x j)-t i*zC5 C (fun j=>M p j*x j):=by
 have e:zC5 C (fun j=>M i j*x j)-t i*zC5 C (fun j=>M p j*x j)=zC5 C (fun j=>M i j*x j)+(-(t i))*zC5 C (fun j=>M p j*x j):=by grind
 rw [e,<- zL4,<- zW2];refine zH1 fun j _ => ?_;unfold zJ1
 grind
theorem qR9 {n C:Nat} (M:Nat->Nat->Rat) {p:Nat} {t:Nat->Rat} (hp:p<n) (ht:t p=0):zH2 n C M (zJ1 M p t):=fun x=>by
 constructor
 ·intro h i hi;rw [qR8,h i hi,h p hp];grind
 ·intro h i hi;have h0:=h p hp;rw [qR8,ht] at h0;have h1:=h i hi;rw [qR8] at h1;have h2:zC5 C (fun j=>M p j*x j)=0:=by grind
  rw [h2] at h1;grind
structure Ech (n at_:Nat) (M:Nat->Nat->Rat) (k:Nat) (p:Nat->Nat):Prop where
 le:k<=n
 rise:∀ i j,i<j->j<k->p i<p j
 lt:∀ i,i<k->p i<at_
 one:∀ i,i<k->M i (p i)=1
 lead:∀ i,i<k -> ∀ j,j<p i->M i j=0
 rest:∀ i,k<=i->i<n -> ∀ j,j<at_->M i j=0
def Red (n:Nat) (M:Nat->Nat->Rat) (k:Nat) (p:Nat->Nat) (u:Nat):Prop:=∀ m,u<=m->m<k -> ∀ i,i<n->i≠m->M i (p m)=0
theorem Ech.zero (n:Nat) (M:Nat->Nat->Rat) (p:Nat->Nat):Ech n 0 M 0 p:=⟨by omega,fun _ _ _ h=>by omega,fun _ h=>by omega,fun _ h=>by omega,fun _ h=>by omega,fun _ _ _ _ h=>by omega⟩
theorem Ech.skip {n a k:Nat} {M:Nat->Nat->Rat} {p:Nat->Nat} (h:Ech n a M k p) (h0:∀ i,k<=i->i<n->M i a=0):Ech n (a+1) M k p :=
 ⟨h.le, h.rise, fun i hi => by have := h.lt i hi; omega, h.one, h.lead, fun i h1 h2 j hj => by
  by_cases e:j=a
  ·subst e;exact h0 i h1 h2
  ·exact h.rest i h1 h2 j (by omega)⟩
theorem Ech.congr {n a k C:Nat} {M M':Nat->Nat->Rat} {p p':Nat->Nat} (h:Ech n a M k p) (ha:a<=C) (hM:∀ i j,i<n->j<C->M i j=M' i j) (hp:∀ i,i<k->p i=p' i):Ech n a M' k p':=by
 have hle:=h.le;refine ⟨h.le,fun i j hi hj=>by rw [<- hp i (by omega),<- hp j hj];exact h.rise i j hi hj,fun i hi=>by rw [<- hp i hi];exact h.lt i hi,fun i hi => ?_,fun i hi j hj => ?_,fun i h1 h2 j hj => ?_⟩
 ·rw [<- hp i hi,<- hM i _ (by omega) (by have:=h.lt i hi;omega)];exact h.one i hi
 ·rw [<- hp i hi] at hj;rw [<- hM i j (by omega) (by have:=h.lt i hi;omega)];exact h.lead i hi j hj
 ·rw [<- hM i j h2 (by omega)];exact h.rest i h1 h2 j hj
theorem Red.congr {n k u C:Nat} {M M':Nat->Nat->Rat} {p p':Nat->Nat} (h:Red n M k p u) (hlt:∀ i,i<k->p i<C) (hM:∀ i j,i<n->j<C->M i j=M' i j) (hp:∀ i,i<k->p i=p' i):Red n M' k p' u:=fun m h1 h2 i h3 h4=>by
 rw [<- hp m h2,<- hM i _ h3 (hlt m h2)];exact h m h1 h2 i h3 h4
theorem Ech.swap {n a k f:Nat} {M:Nat->Nat->Rat} {p:Nat->Nat} (h:Ech n a M k p) (hf:k<=f) (hn:f<n):Ech n a (zE9 M k f) k p:=by
 refine ⟨h.le,h.rise,h.lt,fun i hi => ?_,fun i hi j hj => ?_,fun i h1 h2 j hj => ?_⟩
 ·unfold zE9;rw [if_neg (by omega),if_neg (by omega)];exact h.one i hi
 ·unfold zE9;rw [if_neg (by omega),if_neg (by omega)];exact h.lead i hi j hj
 ·unfold zE9;by_cases e:i=k
  ·rw [if_pos e];exact h.rest f hf hn j hj
  ·rw [if_neg e];by_cases e2:i=f
   ·rw [if_pos e2];exact h.rest k (by omega) (by omega) j hj
   ·rw [if_neg e2];exact h.rest i h1 h2 j hj
theorem Ech.scale {n a k:Nat} {M:Nat->Nat->Rat} {p:Nat->Nat} (h:Ech n a M k p) (c:Rat):Ech n a (zG0 M k c) k p:=by
 refine ⟨h.le,h.rise,h.lt,fun i hi => ?_,fun i hi j hj => ?_,fun i h1 h2 j hj => ?_⟩
 ·unfold zG0;rw [if_neg (by omega)];exact h.one i hi
 ·unfold zG0;rw [if_neg (by omega)];exact h.lead i hi j hj
 ·unfold zG0;by_cases e:i=k
  ·rw [if_pos e,h.rest i h1 h2 j hj];grind
  ·rw [if_neg e];exact h.rest i h1 h2 j hj
theorem Ech.clear {n a k:Nat} {M:Nat->Nat->Rat} {p:Nat->Nat} {t:Nat->Rat} (h:Ech n a M k p) (hk:k<n) (h1:M k a=1) (ht:t k=0) (hb:∀ i,k<i->i<n->t i=M i a):Ech n (a+1) (zJ1 M k t) (k+1) (fun i=>if i<k then p i else a):=by
 have z:∀ j,j<a->M k j=0:=fun j hj=>h.rest k (by omega) hk j hj;refine ⟨by omega,fun i j hi hj => ?_,fun i hi => ?_,fun i hi => ?_,fun i hi j hj => ?_,fun i h2 h3 j hj => ?_⟩
 ·by_cases e:j<k
  ·rw [if_pos e,if_pos (by omega)];exact h.rise i j hi e
  ·rw [if_neg e,if_pos (by omega)];exact h.lt i (by omega)
 ·by_cases e:i<k
  ·simp only [if_pos e];have:=h.lt i e;omega
  ·simp only [if_neg e];omega
 ·unfold zJ1;by_cases e:i<k
  ·simp only [if_pos e];rw [h.one i e,z _ (h.lt i e)];grind
  ·simp only [if_neg e];obtain rfl:i=k:=by omega
   rw [ht,h1];grind
 ·unfold zJ1;by_cases e:i<k
  ·simp only [if_pos e] at hj;rw [h.lead i e j hj,z j (by have:=h.lt i e;omega)];grind
  ·simp only [if_neg e] at hj;obtain rfl:i=k:=by omega
   rw [z j hj];grind
 ·unfold zJ1;by_cases e:j=a
  ·subst e;rw [hb i (by omega) h3,h1];grind
  ·rw [h.rest i (by omega) h3 j (by omega),z j (by omega)];grind
theorem Red.swap {n k f:Nat} {M:Nat->Nat->Rat} {p:Nat->Nat} (h:Red n M k p 0) (hf:k<=f) (hn:f<n):Red n (zE9 M k f) k p 0:=fun m h1 h2 i h3 h4=>by
 unfold zE9;by_cases e:i=k
 ·rw [if_pos e];exact h m h1 h2 f hn (by omega)
 ·rw [if_neg e];by_cases e2:i=f
  ·rw [if_pos e2];exact h m h1 h2 k (by omega) (by omega)
  ·rw [if_neg e2];exact h m h1 h2 i h3 h4
theorem Red.scale {n k:Nat} {M:Nat->Nat->Rat} {p:Nat->Nat} (h:Red n M k p 0) (c:Rat):Red n (zG0 M k c) k p 0:=fun m h1 h2 i h3 h4=>by
 unfold zG0;by_cases e:i=k
 ·rw [if_pos e,h m h1 h2 i h3 h4];grind
 ·rw [if_neg e];exact h m h1 h2 i h3 h4
theorem Red.clear {n a k:Nat} {M:Nat->Nat->Rat} {p:Nat->Nat} {t:Nat->Rat} (h:Red n M k p 0) (he:Ech n a M k p) (hk:k<n) (h1:M k a=1) (ht:t k=0) (hb:∀ i,i≠k->i<n->t i=M i a):Red n (zJ1 M k t) (k+1) (fun i=>if i<k then p i else a) 0:=fun m h2 h3 i h4 h5=>by
 unfold zJ1;by_cases e:m<k
 ·simp only [if_pos e];rw [h m h2 e i h4 h5,h m h2 e k hk (by omega)];grind
 ·simp only [if_neg e];obtain rfl:m=k:=by omega
  rw [hb i h5 h4,h1];grind
theorem Ech.up {n a k m:Nat} {M:Nat->Nat->Rat} {p:Nat->Nat} {t:Nat->Rat} (h:Ech n a M k p) (hm:m<k) (ht:∀ i,m<=i->t i=0):Ech n a (zJ1 M m t) k p:=by
 have z:∀ i j,i<m->j<=p i->M m j=0:=fun i j hi hj=>h.lead m hm j (by have:=h.rise i m hi hm;omega);refine ⟨h.le,h.rise,h.lt,fun i hi => ?_,fun i hi j hj => ?_,fun i h1 h2 j hj => ?_⟩
 ·unfold zJ1;by_cases e:i<m
  ·rw [h.one i hi,z i _ e (zB4 _)];grind
  ·rw [h.one i hi,ht i (by omega)];grind
 ·unfold zJ1;by_cases e:i<m
  ·rw [h.lead i hi j hj,z i j e (by omega)];grind
  ·rw [h.lead i hi j hj,ht i (by omega)];grind
 ·unfold zJ1;rw [h.rest i h1 h2 j hj,ht i (by omega)];grind
theorem Red.up {n a k m:Nat} {M:Nat->Nat->Rat} {p:Nat->Nat} {t:Nat->Rat} (h:Red n M k p (m+1)) (he:Ech n a M k p) (hm:m<k) (ht:∀ i,m<=i->t i=0) (hb:∀ i,i<m->t i=M i (p m)):Red n (zJ1 M m t) k p m:=fun q h1 h2 i h3 h4=>by
 have hle:=he.le;unfold zJ1;by_cases e:q=m
 ·subst e;by_cases e2:i<q
  ·rw [hb i e2,he.one q hm];grind
  ·rw [ht i (by omega)];by_cases e3:i<k
   ·rw [he.lead i e3 _ (he.rise q i (by omega) e3)];grind
   ·rw [he.rest i (by omega) h3 _ (he.lt q hm)];grind
 ·rw [h q (by omega) h2 i h3 h4,h q (by omega) h2 m (by omega) (by omega)];grind
def nv (M:Nat->Nat->Rat) (k:Nat) (p:Nat->Nat) (j:Nat):Nat->Rat:=fun c=>if c=j then 1 else -(zC5 k (fun i=>if p i=c then M i j else 0))
theorem Ech.inj {n a k:Nat} {M:Nat->Nat->Rat} {p:Nat->Nat} (h:Ech n a M k p) {i j:Nat} (hi:i<k) (hj:j<k) (e:p i=p j):i=j:=by
 rcases Nat.lt_trichotomy i j with hl|hl|hl
 ·have:=h.rise i j hl hj;omega
 ·exact hl
 ·have:=h.rise j i hl hi;omega
theorem qS {M:Nat->Nat->Rat} {k:Nat} {p:Nat->Nat} {j:Nat} : nv M k p j j=1:=if_pos rfl
theorem yE8 {n a k:Nat} {M:Nat->Nat->Rat} {p:Nat->Nat} (h:Ech n a M k p) {i j:Nat} (hi:i<k) (hne:p i≠j):nv M k p j (p i) = - M i j:=by
 unfold nv;rw [if_neg hne,zR1 (a:=i) hi (fun m hm hn=>if_neg fun e=>hn (h.inj hm hi e)),if_pos rfl]
theorem yE9 {M:Nat->Nat->Rat} {k:Nat} {p:Nat->Nat} {j c:Nat} (hc:c≠j) (hf:∀ i,i<k->p i≠c):nv M k p j c=0:=by
 unfold nv;rw [if_neg hc,zY9 (fun i hi=>if_neg (hf i hi))];grind
theorem yF {n C k:Nat} {M:Nat->Nat->Rat} {p:Nat->Nat} (h:Ech n C M k p) (hr:Red n M k p 0) {j:Nat} (hj:j<C) (hf:∀ i,i<k->p i≠j):zW3 n C M (nv M k p j):=fun i hi=>by
  by_cases e:i<k
  · rw [yY2 (a := p i) (b := j) (h.lt i e) hj (hf i e) (fun c hc h1 h2 => ?_), yE8 h e (hf i e), qS, h.one i e]
    · grind
    · by_cases hp:∃ m,m<k/\p m=c
      · obtain ⟨m,hm,rfl⟩:=hp;rw [hr m (by omega) hm i hi (fun e2=>h1 (by rw [e2]))];grind
      · rw [yE9 h2 (fun m hm e2=>hp ⟨m,hm,e2⟩)];grind
  · exact zY9 fun c hc=>by rw [h.rest i (by omega) hi c hc];grind
theorem yY3 {n a k:Nat} {M:Nat->Nat->Rat} {p:Nat->Nat} (h:Ech n a M k p) {j c:Nat} (hc:j<c):nv M k p j c=0:=by
 by_cases hp:∃ m,m<k/\p m=c
 ·obtain ⟨m,hm,rfl⟩:=hp;rw [yE8 h hm (by omega),h.lead m hm j hc];grind
 ·exact yE9 (by omega) (fun m hm e2=>hp ⟨m,hm,e2⟩)
def zL7 (M:Nat->Nat->Rat) (a b:Nat) (t:Rat):Nat->Nat->Rat:=fun i j=>if i=a then M i j-t*M b j else M i j
structure RowFn (n C:Nat) (f:(Nat->Nat->Rat)->Rat):Prop where
 congr:∀ M M',(∀ i j,i<n->j<C->M i j=M' i j)->f M=f M'
 scale:∀ M a c,a<n->f (zG0 M a c)=c*f M
 add:∀ M a b t,a<n->b<n->a≠b->f (zL7 M a b t)=f M
theorem RowFn.zero {n C:Nat} {f:(Nat->Nat->Rat)->Rat} (h:RowFn n C f) {M:Nat->Nat->Rat} {a:Nat} (ha:a<n) (h0:∀ j,j<C->M a j=0):f M=0:=by
 have h1:=h.scale M a 0 ha
 rw [h.congr (zG0 M a 0) M (fun i j hi hj=>by
  unfold zG0;by_cases e:i=a
  ·rw [if_pos e,e,h0 j hj];grind
  ·rw [if_neg e])] at h1
 rw [h1];grind
theorem RowFn.clear {n C:Nat} {f:(Nat->Nat->Rat)->Rat} (h:RowFn n C f) (M:Nat->Nat->Rat) {p:Nat} {t:Nat->Rat} (hp:p<n) (ht:t p=0):f (zJ1 M p t)=f M:=by
  have key:∀ m,m<=n->f (fun i j=>if i<m then zJ1 M p t i j else M i j)=f M:=by
    intro m
    induction m with
    | zero=>intro _;exact h.congr _ _ fun i j _ _=>if_neg (by omega)
    | succ m ih =>
      intro hm;rw [<- ih (by omega)];by_cases e:m=p
      · refine h.congr _ _ fun i j hi hj => ?_
        by_cases e1:i<m
        · simp only [if_pos e1,if_pos (show i<m+1 by omega)]
        · by_cases e2:i=m
          · subst e2;simp only [if_neg e1,if_pos (show i<i+1 by omega)];unfold zJ1;rw [e,ht];grind
          · simp only [if_neg e1,if_neg (show ¬ i<m+1 by omega)]
      · rw [<- h.add (fun i j => if i < m then zJ1 M p t i j else M i j) m p (t m) (by omega) hp e];refine h.congr _ _ fun i j hi hj => ?_;unfold zL7;by_cases e2:i=m
        · subst e2;simp only [if_pos (show i<i+1 by omega),if_neg (show ¬ i<i by omega)];by_cases e3:p<i
          · simp only [if_pos e3];unfold zJ1;rw [ht];grind
          · simp only [if_neg e3]
            rfl
        · simp only [if_neg e2];by_cases e1:i<m
          · simp only [if_pos e1,if_pos (show i<m+1 by omega)]
          · simp only [if_neg e1,if_neg (show ¬ i<m+1 by omega)]
  rw [<- key n (zB4 _)];exact h.congr _ _ fun i j hi _=>(if_pos hi).symm
theorem RowFn.swap {n C:Nat} {f:(Nat->Nat->Rat)->Rat} (h:RowFn n C f) (M:Nat->Nat->Rat) {a b:Nat} (ha:a<n) (hb:b<n) (hab:a≠b):f (zE9 M a b) = - f M:=by
 have e1:=h.add M a b (-1) ha hb hab;have e2:=h.add (zL7 M a b (-1)) b a 1 hb ha (fun e=>hab e.symm);have e3:=h.add (zL7 (zL7 M a b (-1)) b a 1) a b (-1) ha hb hab;have e4:=h.scale (zL7 (zL7 (zL7 M a b (-1)) b a 1) a b (-1)) b (-1) hb
 have e5:f (zE9 M a b)=f (zG0 (zL7 (zL7 (zL7 M a b (-1)) b a 1) a b (-1)) b (-1)):=h.congr _ _ fun i j hi hj=>by
  have hba:b≠a:=fun e=>hab e.symm;unfold zE9 zG0 zL7;by_cases k1:i=a
  ·subst k1;simp only [if_neg hab,if_neg hba]
   grind
  ·by_cases k2:i=b
   ·subst k2;simp only [if_neg hba]
    grind
   ·simp only [if_neg k1,if_neg k2]
 rw [e5,e4,e3,e2,e1];grind
def zI1 (j c:Nat):Nat:=if c<j then c else c+1
def qB7 (a b:Nat):Nat:=if b<a then b else b-1
def sgN (j:Nat):Rat:=if j % 2=0 then 1 else -1
def zL8 (M:Nat->Nat->Rat) (j:Nat):Nat->Nat->Rat:=fun i c=>M (i+1) (zI1 j c)
def zC8:Nat->(Nat->Nat->Rat)->Rat
 | 0,_=>1
 | n+1,M=>zC5 (n+1) (fun j=>sgN j*M 0 j*zC8 n (zL8 M j))
theorem zZ0 {j c n:Nat} (hc:c<n):zI1 j c<n+1:=by unfold zI1;split<;>omega
theorem yY4 (j c:Nat):zI1 j c≠j:=by unfold zI1;split<;>omega
theorem yY5 (a l:Nat):qB7 a (zI1 a l)=l:=by
 unfold qB7 zI1;by_cases h:l<a
 ·rw [if_pos h,if_pos h]
 ·rw [if_neg h,if_neg (by omega)];omega
theorem yY6 {a b:Nat} (h:a<b) (c:Nat):zI1 a (zI1 (b-1) c)=zI1 b (zI1 a c):=by
 unfold zI1;by_cases h1:c<a
 ·simp only [if_pos h1,if_pos (show c<b-1 by omega),if_pos (show c<b by omega)]
 ·by_cases h2:c<b-1
  ·simp only [if_neg h1,if_pos h2,if_pos (show c+1<b by omega)]
  ·simp only [if_neg h1,if_neg h2,if_neg (show ¬ c+1<a by omega),if_neg (show ¬ c+1<b by omega)]
theorem yY7 {b:Nat} (h:0<b):sgN (b-1) = - sgN b:=by
 unfold sgN;by_cases h1:b % 2=0
 ·rw [if_pos h1,if_neg (by omega)]
 ·rw [if_neg h1,if_pos (by omega)];grind
theorem zK7:∀ (n:Nat) {M M':Nat->Nat->Rat},(∀ i j,i<n->j<n->M i j=M' i j)->zC8 n M=zC8 n M'
  | 0,_,_,_=>rfl
  | n + 1, M, M', h => zH1 fun j hj => by
    rw [h 0 j (by omega) hj,zK7 n (M:=zL8 M j) (M':=zL8 M' j) (fun i c hi hc=>h (i+1) _ (by omega) (zZ0 hc))]
theorem qS0:∀ (n:Nat) {M M1 M2:Nat->Nat->Rat} (a:Nat) (x y:Rat),a<n->(∀ j,j<n->M a j=x*M1 a j+y*M2 a j)->(∀ i j,i<n->j<n->i≠a->M i j=M1 i j/\M i j=M2 i j)->zC8 n M=x*zC8 n M1+y*zC8 n M2
  | 0,_,_,_,_,_,_,h,_,_=>by omega
  | n + 1, M, M1, M2, 0, x, y, _, h1, h2 => by
    show zC5 _ _=x*zC5 _ _+y*zC5 _ _
    rw [<- zL4,<- zL4,<- zW2];refine zH1 fun j hj => ?_
    rw [h1 j hj,zK7 n (M:=zL8 M j) (M':=zL8 M1 j) (fun i c hi hc=>(h2 (i+1) _ (by omega) (zZ0 hc) (by omega)).1),zK7 n (M:=zL8 M2 j) (M':=zL8 M1 j) (fun i c hi hc=>by
      have:=h2 (i+1) (zI1 j c) (by omega) (zZ0 hc) (by omega)
      exact this.2.symm.trans this.1)]
    grind
  | n + 1, M, M1, M2, a + 1, x, y, ha, h1, h2 => by
    show zC5 _ _=x*zC5 _ _+y*zC5 _ _
    rw [<- zL4,<- zL4,<- zW2];refine zH1 fun j hj => ?_;rw [qS0 n (M:=zL8 M j) (M1:=zL8 M1 j) (M2:=zL8 M2 j) a x y (by omega) (fun c hc=>h1 _ (zZ0 hc)) (fun i c hi hc hne=>h2 (i+1) _ (by omega) (zZ0 hc) (by omega)),<- (h2 0 j (by omega) hj (by omega)).1,<- (h2 0 j (by omega) hj (by omega)).2]
    grind
theorem yF0:∀ (n j:Nat) (F:Nat->Rat),j<n+1->zC5 n (fun l=>F (zI1 j l))+F j=zC5 (n+1) F
  | 0, j, F, h => by
    obtain rfl:j=0:=by omega
    rfl
  | n + 1, j, F, h => by
    show (zC5 n _+F (zI1 j n))+F j=zC5 (n+1) F+F (n+1)
    by_cases e:j=n+1
    · subst e;have h1:zC5 n (fun l=>F (zI1 (n+1) l))=zC5 n F:=zH1 fun l hl=>by unfold zI1;rw [if_pos (by omega)]
      rw [h1];unfold zI1;rw [if_pos (by omega)]
      rfl
    · have h1:=yF0 n j F (by omega);rw [<- h1];have h2:zI1 j n=n+1:=by unfold zI1;rw [if_neg (by omega)]
      rw [h2];grind
def zP8 (n:Nat) (M:Nat->Nat->Rat) (a b:Nat):Rat:=if b=a then 0 else sgN a*sgN (qB7 a b)*zC8 n (fun i c=>M (i+2) (zI1 a (zI1 (qB7 a b) c)))
theorem yY8 (n:Nat) (M:Nat->Nat->Rat) (a b:Nat):zP8 n M b a = - zP8 n M a b:=by
 have main:∀ a b,a<b->zP8 n M b a = - zP8 n M a b:=by
  intro a b h;unfold zP8;rw [if_neg (by omega),if_neg (by omega)];have e1:qB7 b a=a:=if_pos h;have e2:qB7 a b=b-1:=if_neg (by omega);rw [e1,e2,yY7 (by omega),zK7 n (M:=fun i c=>M (i+2) (zI1 a (zI1 (b-1) c))) (M':=fun i c=>M (i+2) (zI1 b (zI1 a c))) (fun i c _ _=>by rw [yY6 h])]
  grind
 rcases Nat.lt_trichotomy a b with h | h | h
 ·exact main a b h
 ·subst h;unfold zP8;rw [if_pos rfl];grind
 ·have:=main b a h
  rw [this];grind
theorem yF1 (n:Nat) (M:Nat->Nat->Rat):zC8 (n+2) M=zC5 (n+2) (fun j=>zC5 (n+2) (fun b=>M 0 j*M 1 b*zP8 n M j b)):=by
 show zC5 (n+2) _=_
 refine zH1 fun j hj => ?_
 show sgN j*M 0 j*zC5 (n+1) _=_
 rw [<- yF0 (n+1) j _ hj,<- zL4];have h0:zP8 n M j j=0:=if_pos rfl;simp only [h0];rw [show M 0 j*M 1 j*0=0 by grind,Rat.add_zero];refine zH1 fun l hl => ?_;unfold zP8;rw [if_neg (yY4 j l),yY5];show sgN j*M 0 j*(sgN l*M 1 (zI1 j l)*zC8 n (fun i c=>M (i+2) (zI1 j (zI1 l c))))=_
 grind
theorem yY9 (n:Nat) (M:Nat->Nat->Rat):zC8 (n+2) (zE9 M 0 1) = - zC8 (n+2) M:=by
 rw [yF1,yF1,yE5];have e : - zC5 (n+2) (fun j=>zC5 (n+2) (fun b=>M 0 j*M 1 b*zP8 n M j b))=(-1)*zC5 (n+2) (fun j=>zC5 (n+2) (fun b=>M 0 j*M 1 b*zP8 n M j b)):=by grind
 rw [e,<- zL4];refine zH1 fun j hj => ?_;rw [<- zL4];refine zH1 fun b hb => ?_;have e0:zE9 M 0 1 0 b=M 1 b:=rfl;have e1:zE9 M 0 1 1 j=M 0 j:=rfl;have e2:zP8 n (zE9 M 0 1) b j=zP8 n M b j:=rfl;rw [e0,e1,e2,yY8 n M j b];grind
theorem qS1:∀ (i n:Nat) (M:Nat->Nat->Rat),i+1<n->zC8 n (zE9 M i (i+1)) = - zC8 n M
  | 0,0,_,h=>by omega
  | 0,1,_,h=>by omega
  | 0,n+2,M,_=>yY9 n M
  | i+1,0,_,h=>by omega
  | i + 1, n + 1, M, h => by
    show zC5 _ _ = - zC5 _ _
    have e : - zC5 (n+1) (fun j=>sgN j*M 0 j*zC8 n (zL8 M j))=(-1)*zC5 (n+1) (fun j=>sgN j*M 0 j*zC8 n (zL8 M j)):=by grind
    rw [e,<- zL4];refine zH1 fun j hj => ?_;have e0:zE9 M (i+1) (i+1+1) 0 j=M 0 j:=by unfold zE9;rw [if_neg (by omega),if_neg (by omega)]
    have e1:zL8 (zE9 M (i+1) (i+1+1)) j=zE9 (zL8 M j) i (i+1):=by
      funext r c
      unfold zL8 zE9;by_cases k1:r=i
      · rw [if_pos (by omega),if_pos k1]
      · by_cases k2:r=i+1
        · rw [if_neg (by omega),if_pos (by omega),if_neg k1,if_pos k2]
        · rw [if_neg (by omega),if_neg (by omega),if_neg k1,if_neg k2]
    rw [e0,e1,qS1 i n (zL8 M j) (by omega)];grind
theorem qS2:∀ (d a n:Nat) (M:Nat->Nat->Rat),a+d+1<n->(∀ j,j<n->M a j=M (a+d+1) j)->zC8 n M=0
  | 0, a, n, M, h, he => by
    have h1:=qS1 a n M h
    rw [zK7 n (M := zE9 M a (a + 1)) (M' := M) (fun i j hi hj => by
      unfold zE9;by_cases k1:i=a
      · rw [if_pos k1,k1];exact (he j hj).symm
      · by_cases k2:i=a+1
        · rw [if_neg k1,if_pos k2,k2];exact he j hj
        · rw [if_neg k1,if_neg k2])] at h1
    grind
  | d + 1, a, n, M, h, he => by
    have h1:=qS1 (a+d+1) n M (by omega)
    have h2:=qS2 d a n (zE9 M (a+d+1) (a+d+1+1)) (by omega) (fun j hj=>by
      unfold zE9;rw [if_neg (by omega),if_neg (by omega),if_pos rfl];exact he j hj)
    rw [h2] at h1
    grind
theorem zS1 (n:Nat):RowFn n n (zC8 n):=by
 refine ⟨fun M M' h=>zK7 n h,fun M a c ha => ?_,fun M a b t ha hb hab => ?_⟩
 ·have h:=qS0 n (M:=zG0 M a c) (M1:=M) (M2:=M) a c 0 ha (fun j _=>by unfold zG0;rw [if_pos rfl];grind) (fun i j _ _ hne=>by unfold zG0;rw [if_neg hne];exact ⟨rfl,rfl⟩);rw [h];grind
 ·have h:=qS0 n (M:=zL7 M a b t) (M1:=M) (M2:=fun i j=>if i=a then M b j else M i j) a 1 (-t) ha (fun j _=>by unfold zL7;rw [if_pos rfl,if_pos rfl];grind) (fun i j _ _ hne=>by unfold zL7;rw [if_neg hne,if_neg hne];exact ⟨rfl,rfl⟩)
  have h0:zC8 n (fun i j=>if i=a then M b j else M i j)=0:=by
   rcases Nat.lt_or_gt_of_ne hab with hl|hl
   ·refine qS2 (b-a-1) a n _ (by omega) (fun j _ => ?_);rw [show a+(b-a-1)+1=b by omega,if_pos rfl,if_neg (fun e=>hab e.symm)]
   ·refine qS2 (a-b-1) b n _ (by omega) (fun j _ => ?_);rw [show b+(a-b-1)+1=a by omega,if_pos rfl,if_neg (fun e=>hab e.symm)]
  rw [h,h0];grind
def idF:Nat->Nat->Rat:=fun i j=>if i=j then 1 else 0
theorem qF8:∀ n,zC8 n idF=1
  | 0=>rfl
  | n + 1 => by
    show zC5 (n+1) _=1
    rw [zR1 (a:=0) (by omega) (fun j _ hne=>by
      have:idF 0 j=0:=if_neg (fun e=>hne e.symm);rw [this];grind)]
    have e:zL8 idF 0=idF:=by
      funext i c
      have e0:zI1 0 c=c+1:=if_neg (by omega);unfold zL8;rw [e0];unfold idF;by_cases k:i=c
      · rw [if_pos k,if_pos (by omega)]
      · rw [if_neg k,if_neg (by omega)]
    rw [e,qF8 n];show sgN 0*1*1=1
    unfold sgN
    grind
def zP9 (n:Nat) (M B:Nat->Nat->Rat):Nat->Nat->Rat:=fun i j=>zC5 n (fun l=>M i l*B l j)
theorem yZ (n:Nat) (B:Nat->Nat->Rat):RowFn n n (fun M=>zC8 n (zP9 n M B)):=by
 have hd:=zS1 n;refine ⟨fun M M' h=>hd.congr _ _ fun i j hi hj=>zH1 fun l hl=>by rw [h i l hi hl],fun M a c ha => ?_,fun M a b t ha hb hab => ?_⟩
 ·rw [<- hd.scale _ a c ha];refine hd.congr _ _ fun i j hi hj => ?_;unfold zP9 zG0;by_cases e:i=a
  ·simp only [if_pos e];rw [show zC5 n (fun l=>M i l*B l j)*c=c*zC5 n (fun l=>M i l*B l j) by grind,<- zL4];exact zH1 fun l _=>by grind
  ·simp only [if_neg e]
 ·rw [<- hd.add (zP9 n M B) a b t ha hb hab];refine hd.congr _ _ fun i j hi hj => ?_;unfold zP9 zL7;by_cases e:i=a
  ·simp only [if_pos e];rw [show zC5 n (fun l=>M i l*B l j)-t*zC5 n (fun l=>M b l*B l j)=zC5 n (fun l=>M i l*B l j)+(-t)*zC5 n (fun l=>M b l*B l j) by grind,<- zL4,<- zW2];exact zH1 fun l _=>by grind
  ·simp only [if_neg e]
theorem mulF_id (n:Nat) (B:Nat->Nat->Rat) {i j:Nat} (hi:i<n):zP9 n idF B i j=B i j:=by
 unfold zP9
 rw [zR1 (a:=i) hi (fun l _ hne=>by
  have:idF i l=0:=if_neg (fun e=>hne e.symm);rw [this];grind)]
 have:idF i i=1:=if_pos rfl;rw [this];grind
theorem Ech.full {n k:Nat} {M:Nat->Nat->Rat} {p:Nat->Nat} (h:Ech n n M k p) (hk:k=n) {i:Nat} (hi:i<n):p i=i:=by
  subst hk
  have a1:∀ i,i<k->i<=p i:=by
    intro i
    induction i with
    | zero=>intro _;omega
    | succ i ih =>
      intro hi
      have:=ih (by omega)
      have:=h.rise i (i+1) (by omega) hi
      omega
  have a2:∀ d i,i+d+1=k->p i<=i:=by
    intro d
    induction d with
    | zero=>intro i e;have:=h.lt i (by omega);omega
    | succ d ih =>
      intro i e
      have:=ih (i+1) (by omega)
      have:=h.rise i (i+1) (by omega) (by omega)
      omega
  have:=a1 i hi
  have:=a2 (k-i-1) i (by omega)
  omega
theorem RowFn.unit {n k:Nat} {f:(Nat->Nat->Rat)->Rat} (h:RowFn n n f) {p:Nat->Nat} (hk:k=n):∀ (m:Nat) (M:Nat->Nat->Rat),m<=k->Ech n n M k p->Red n M k p m->f M=f idF
  | 0, M, _, he, hr => h.congr _ _ fun i j hi hj => by
    have hp:=he.full hk hj;by_cases e:i=j
    · subst e
      have:=he.one i (by omega)
      rw [hp] at this;rw [this];exact (if_pos rfl).symm
    · have:=hr j (by omega) (by omega) i hi e
      rw [hp] at this;rw [this];exact (if_neg e).symm
  | m + 1, M, hm, he, hr => by
    obtain ⟨t,ht⟩:∃ t:Nat->Rat,t=fun i=>if i<m then M i (p m) else 0:=⟨_,rfl⟩
    have h1:∀ i,m<=i->t i=0:=fun i hi=>by rw [ht];exact if_neg (by omega)
    have h2:∀ i,i<m->t i=M i (p m):=fun i hi=>by rw [ht];exact if_pos hi
    rw [<- h.clear M (p:=m) (t:=t) (by omega) (h1 m (zB4 _))];exact RowFn.unit h hk m _ (by omega) (he.up (by omega) h1) (hr.up he (by omega) h1 h2)
theorem RowFn.steps {n k:Nat} {f:(Nat->Nat->Rat)->Rat} (h:RowFn n n f) {M:Nat->Nat->Rat} {p:Nat->Nat} (he:Ech n n M k p):f M=if k=n then f idF else 0:=by
 by_cases hk:k=n
 ·rw [if_pos hk];exact h.unit hk k M (zB4 _) he (fun m h1 h2=>by omega)
 ·rw [if_neg hk]
  have:=he.le
  exact h.zero (a:=k) (by omega) (fun j hj=>he.rest k (zB4 _) (by omega) j hj)
def zC0 (T:List (List Rat)):Nat->Nat->Rat:=fun i j=>(T.getD i []).getD j 0
theorem zJ2 {T:List (List Rat)} {i:Nat} {r:List Rat} (h:T[i]?=some r):T.getD i []=r:=by
 rw [zA6,h];rfl
theorem zQ {T:List (List Rat)} {i:Nat} {r:List Rat} (h:T[i]?=some r) (j:Nat):zC0 T i j=r.getD j 0:=by
 unfold zC0;rw [zJ2 h]
theorem qS3 {T:List (List Rat)} {i j:Nat} {r:List Rat} {q:Rat} (h:T[i]?=some r) (hq:r[j]?=some q):zC0 T i j=q:=by
 rw [zQ h,zA6,hq];rfl
theorem zW4 {T:List (List Rat)} {n C i j:Nat} (hs:shp T n C) (hi:i<n) (hj:j<C):∃ r,T[i]?=some r/\r.length=C/\r[j]?=some (zC0 T i j):=by
 obtain ⟨r,h1,h2⟩:=zH7 hs hi;have h3:r[j]?=some (r[j]'(by rw [h2];exact hj)):=zA3 _;exact ⟨r,h1,h2,by rw [qS3 h1 h3];exact h3⟩
theorem qL3 {T:List (List Rat)} {i:Nat} (r:List Rat) (hi:i<T.length) (j:Nat):zC0 (T.set i r) i j=r.getD j 0:=zQ (List.getElem?_set_self hi) j
theorem qL4 {T:List (List Rat)} {i k:Nat} (r:List Rat) (h:i≠k) (j:Nat):zC0 (T.set k r) i j=zC0 T i j:=by
 have e:(T.set k r).getD i []=T.getD i []:=by
  rw [zA6,List.getElem?_set_ne (fun e=>h e.symm),<- zA6]
 unfold zC0;rw [e]
theorem qB8 {T:List (List Rat)} {n C i:Nat} {r:List Rat} (hs:shp T n C) (hr:r.length=C):shp (T.set i r) n C :=
 ⟨by rw [zB3]; exact hs.1, fun x hx => by
  rcases List.mem_or_eq_of_mem_set hx with hx | rfl
  ·exact hs.2 x hx
  ·exact hr⟩
theorem yZ0 {T U:List (List Rat)} {n C:Nat} (h:shp T n C) (h':shp U n C) (he:∀ i j,i<n->j<C->zC0 T i j=zC0 U i j):T=U :=
 shp_ext h h' fun i j hi hj=>by
  obtain ⟨r,h1,_,h2⟩:=zW4 h hi hj;obtain ⟨s,h3,_,h4⟩:=zW4 h' hi hj;rw [yE4 h1 h2,yE4 h3 h4,he i j hi hj]
theorem yZ1 {p q:List Rat} {k:Rat} {j:Nat} (h:p.length=q.length) (hj:j<p.length):(zG4 p k q).getD j 0=p.getD j 0-k*q.getD j 0:=by
 unfold zG4;rw [zA6,List.getElem?_zipWith,zA3 hj,zA3 (by omega:j<q.length),zA6,zA6,zA3 hj,zA3 (by omega:j<q.length)]
 rfl
theorem yZ2 {p:List Rat} {k:Rat} {j:Nat} (hj:j<p.length):(zF3 p k).getD j 0=p.getD j 0*k:=by
 unfold zF3;rw [zA6,zB1,zA3 hj,zA6,zA3 hj]
 rfl
theorem yZ3 {p q:List Rat} (h:p.length=q.length):zG4 p 0 q=p:=by
 refine List.ext_getElem? fun j => ?_;unfold zG4;rw [List.getElem?_zipWith];by_cases hj:j<p.length
 ·rw [zA3 hj,zA3 (by omega:j<q.length)];show some _=_
  congr 1
  grind
 ·rw [List.getElem?_eq_none (by omega)]
def zG7 (T:List (List Rat)) (a b:Nat):List (List Rat):=(T.set a (T.getD b [])).set b (T.getD a [])
theorem qF9 {T:List (List Rat)} {n C a b:Nat} (hs:shp T n C) (ha:a<n) (hb:b<n):shp (zG7 T a b) n C:=by
 obtain ⟨r,h1,h2⟩:=zH7 hs ha;obtain ⟨s,h3,h4⟩:=zH7 hs hb;unfold zG7;rw [zA6,h3,zA6,h1];exact qB8 (qB8 hs h4) h2
theorem qL5 {T:List (List Rat)} {n C a b:Nat} (hs:shp T n C) (ha:a<n) (hb:b<n) (i j:Nat):zC0 (zG7 T a b) i j=zE9 (zC0 T) a b i j:=by
 unfold zG7 zE9;by_cases e2:i=b
 ·subst e2;rw [qL3 _ (by rw [zB3,hs.1];exact hb)];by_cases e1:i=a
  ·subst e1;rw [if_pos rfl];rfl
  ·rw [if_neg e1,if_pos rfl];rfl
 ·rw [qL4 _ e2];by_cases e1:i=a
  ·subst e1;rw [qL3 _ (by rw [hs.1];exact ha),if_pos rfl];rfl
  ·rw [qL4 _ e1,if_neg e1,if_neg e2]
def zO5 (T:List (List Rat)) (a:Nat) (c:Rat):List (List Rat):=T.set a (zF3 (T.getD a []) c)
theorem yF2 {T:List (List Rat)} {n C a:Nat} (c:Rat) (hs:shp T n C) (ha:a<n):shp (zO5 T a c) n C:=by
 obtain ⟨r,h1,h2⟩:=zH7 hs ha;unfold zO5;rw [zA6,h1];exact qB8 hs (by rw [qB6];exact h2)
theorem yZ4 {T:List (List Rat)} {n C a:Nat} (c:Rat) (hs:shp T n C) (ha:a<n) (i j:Nat) (hj:j<C):zC0 (zO5 T a c) i j=zG0 (zC0 T) a c i j:=by
 unfold zO5 zG0;by_cases e:i=a
 ·subst e;obtain ⟨r,h1,h2⟩:=zH7 hs ha;rw [qL3 _ (by rw [hs.1];exact ha),if_pos rfl,zQ h1,zJ2 h1];exact yZ2 (by omega)
 ·rw [qL4 _ e,if_neg e]
def zF9 (T:List (List Rat)) (P:Nat->Bool) (p:List Rat) (a:Nat):Nat->List (List Rat)
 | 0=>T
 | x+1=>if P x then (zF9 T P p a x).set x (zG4 (T.getD x []) (zC0 T x a) p) else zF9 T P p a x
theorem qL6 (T:List (List Rat)) (P:Nat->Bool) (p:List Rat) (a:Nat):∀ x,(zF9 T P p a x).length=T.length
  | 0=>rfl
  | x + 1 => by
    unfold zF9
    split
    · rw [zB3];exact qL6 T P p a x
    · exact qL6 T P p a x
theorem qG (T:List (List Rat)) (P:Nat->Bool) (p:List Rat) (a:Nat):∀ (x i:Nat),x<=i->(zF9 T P p a x)[i]?=T[i]?
  | 0,_,_=>rfl
  | x + 1, i, h => by
    unfold zF9
    split
    · rw [List.getElem?_set_ne (by omega)];exact qG T P p a x i (by omega)
    · exact qG T P p a x i (by omega)
theorem qS4 {T:List (List Rat)} {P:Nat->Bool} {p:List Rat} {a i:Nat} (h:P i=false):∀ x,(zF9 T P p a x)[i]?=T[i]?
  | 0=>rfl
  | x + 1 => by
    unfold zF9
    split
    · rename_i h1
      rw [List.getElem?_set_ne (fun e=>by rw [e,h] at h1;cases h1)];exact qS4 h x
    · exact qS4 h x
theorem qG0 {T:List (List Rat)} {P:Nat->Bool} {p:List Rat} {n C a:Nat} (hs:shp T n C) (hp:p.length=C):∀ x,x<=n->shp (zF9 T P p a x) n C
  | 0,_=>hs
  | x + 1, h => by
    unfold zF9
    split
    · obtain ⟨r,h1,h2⟩:=zH7 hs (show x<n by omega);refine qB8 (qG0 hs hp x (by omega)) ?_;rw [zA6,h1];show (zG4 r _ p).length=C
      rw [qL1 (by omega)];exact h2
    · exact qG0 hs hp x (by omega)
theorem yF3 {T:List (List Rat)} {P:Nat->Bool} {p:List Rat} {n C a:Nat} (hs:shp T n C) (hp:p.length=C):∀ (x i j:Nat),x<=n->j<C->zC0 (zF9 T P p a x) i j=if i<x/\P i=true then zC0 T i j-zC0 T i a*p.getD j 0 else zC0 T i j
  | 0,i,j,_,_=>by rw [if_neg (by omega)];rfl
  | x + 1, i, j, h, hj => by
    have ih:=yF3 (P:=P) (a:=a) hs hp x i j (by omega) hj;unfold zF9;by_cases hP:P x=true
    · rw [if_pos hP];by_cases e:i=x
      · subst e;obtain ⟨r,h1,h2⟩:=zH7 hs (show i<n by omega);rw [qL3 _ (by rw [qL6,hs.1];omega),if_pos ⟨by omega,hP⟩,zJ2 h1,zQ h1 j];exact yZ1 (by omega) (by omega)
      · rw [qL4 _ e,ih];by_cases e2:i<x/\P i=true
        · rw [if_pos e2,if_pos ⟨by omega,e2.2⟩]
        · rw [if_neg e2,if_neg (fun e3=>e2 ⟨by omega,e3.2⟩)]
    · rw [if_neg hP, ih];by_cases e2:i<x/\P i=true
      · rw [if_pos e2,if_pos ⟨by omega,e2.2⟩]
      · rw [if_neg e2,if_neg (fun e3=>e2 ⟨by
          have:=e3.1
          by_cases e4:i=x
          · subst e4;exact absurd e3.2 hP
          · omega,e3.2⟩)]
theorem qL7 {T:List (List Rat)} {P:Nat->Bool} {p r:List Rat} {a x:Nat} (hP:P x=true) (hr:T[x]?=some r):zF9 T P p a (x+1)=(zF9 T P p a x).set x (zG4 r (zC0 T x a) p):=by
 show (if P x=true then _ else _)=_
 rw [if_pos hP,zJ2 hr]
theorem yZ5 {T:List (List Rat)} {P:Nat->Bool} {p r:List Rat} {a x:Nat} (hP:P x=true) (hr:T[x]?=some r) (h0:zC0 T x a=0) (hl:r.length=p.length):zF9 T P p a (x+1)=zF9 T P p a x:=by
 rw [qL7 hP hr,h0,yZ3 hl];apply List.ext_getElem?;intro k;rw [List.getElem?_set];by_cases e:x=k
 ·subst e;rw [if_pos rfl,qG T P p a x x (zB4 _),hr,if_pos (by rw [qL6];exact (zA4.1 hr).1)]
 ·rw [if_neg e]
theorem qS5 {T:List (List Rat)} {P:Nat->Bool} {p:List Rat} {a x:Nat} (hP:P x=false):zF9 T P p a (x+1)=zF9 T P p a x:=by
 show (if P x=true then _ else _)=_
 rw [if_neg (by rw [hP];decide)]
def zL5 (r:List Rat) (S:Nat):Prop:=∃ d:Nat,0<d/\(digs 4294967296 d).length<=S /\ ∀ x∈r,∃ z:Int,x=mkRat z d/\zC4 z<=S
theorem zL5.mono {r:List Rat} {S S':Nat} (h:zL5 r S) (hS:S<=S'):zL5 r S':=by
 obtain ⟨d,h1,h2,h3⟩:=h;exact ⟨d,h1,by omega,fun x hx=>by obtain ⟨z,e,hz⟩:=h3 x hx;exact ⟨z,e,by omega⟩⟩
theorem zL5.len {r:List Rat} {S:Nat} (h:zL5 r S):∀ x∈r,zC6 x S:=fun x hx=>by
 obtain ⟨d,h1,h2,h3⟩:=h;obtain ⟨z,rfl,hz⟩:=h3 x hx;exact zS0 (by omega) hz h2
theorem qL8:∀ {r:List Rat} {m:Nat},(∀ x∈r,zC6 x m)->zL5 r (m*r.length+1)
  | [],m,_=>⟨1,by omega,by
      have:=zJ5 (B:=4294967296) (x:=1) (k:=1) (by omega) (by decide +kernel)
      omega,fun x hx=>by simp at hx⟩
  | q :: r, m, h => by
    obtain ⟨d,h1,h2,h3⟩:=qL8 (r:=r) (m:=m) fun x hx=>h x (List.mem_cons_of_mem _ hx);have hq:=h q List.mem_cons_self;have e:m*(q :: r).length+1=m*r.length+1+m:=by rw [List.length_cons,Nat.mul_succ];omega
    rw [e];refine ⟨d*q.den,Nat.mul_pos h1 q.den_pos,?_,fun x hx => ?_⟩
    · have h4:=zT3 d q.den;have h5:=hq.2;omega
    · rcases List.mem_cons.1 hx with rfl|hx
      · refine ⟨x.num*(d:Int),?_,?_⟩
        · rw [Nat.mul_comm d x.den,Rat.mkRat_mul_right (by omega),Rat.mkRat_self]
        · have h4:=zO3 hq.1 (show zC4 ((d:Nat):Int)<=m*r.length+1 by rw [zP6];exact h2);omega
      · obtain ⟨z,rfl,hz⟩:=h3 x hx;refine ⟨z*(q.den:Int),?_,?_⟩
        · rw [Rat.mkRat_mul_right q.den_nz]
        · have h4:=zO3 hz (show zC4 ((q.den:Nat):Int)<=m by rw [zP6];exact hq.2);omega
theorem zS2 (z:Int) {d:Nat} (h:d≠0):mkRat z d=(z:Rat) / (d:Rat):=Rat.mkRat_eq_div z d
theorem zL5.scale {r:List Rat} {S:Nat} {x:Rat} (h:zL5 r S) (hx:x∈r) (h0:x≠0):zL5 (zF3 r x⁻¹) S:=by
 obtain ⟨d,h1,h2,h3⟩:=h;obtain ⟨b,rfl,hb⟩:=h3 x hx;have hb0:b≠0:=fun e=>h0 (by rw [e];exact Rat.zero_mkRat d)
 have hd:((d:Nat):Rat)≠0:=by
  intro e;have:d=0:=by exact_mod_cast e
  omega
 have hbr:((b:Int):Rat)≠0:=by
  intro e;have:b=0:=by exact_mod_cast e
  exact hb0 this
 refine ⟨b.natAbs,by omega,hb,fun y hy => ?_⟩;obtain ⟨u,hu,rfl⟩:=List.mem_map.1 hy;obtain ⟨a,rfl,ha⟩:=h3 u hu;rcases Int.natAbs_eq b with e | e
 ·refine ⟨a,?_,ha⟩
  have e2:((b.natAbs:Nat):Rat)=((b:Int):Rat):=by
   conv=>rhs;rw [e]
   exact (Rat.intCast_natCast _).symm
  rw [zS2 a (by omega),zS2 b (by omega),zS2 a (by omega),e2]
  grind
 ·refine ⟨-a,?_,by rw [qE5];exact ha⟩
  have e2:((b.natAbs:Nat):Rat) = -((b:Int):Rat):=by
   conv=>rhs;rw [e]
   rw [Rat.intCast_neg];show _ = - -(((b.natAbs:Nat):Int):Rat)
   rw [Rat.intCast_natCast];grind
  rw [zS2 a (by omega),zS2 b (by omega),zS2 (-a) (by omega),e2,Rat.intCast_neg]
  grind
theorem qS6 {x y:Int} {m:Nat} (h:zC4 x<=m) (h':zC4 y<=m):zC4 (x-y)<=m+1:=by
 have h1:=yD5 h h';unfold zC4;refine zB5 (zG5 (by omega) ?_) h1;omega
theorem zL5.less {r p:List Rat} {S S':Nat} {x:Rat} (h:zL5 r S) (hp:zL5 p S') (hx:x∈r):zL5 (zG4 r x p) (S+S'+1):=by
 obtain ⟨d,h1,h2,h3⟩:=h;obtain ⟨e,g1,g2,g3⟩:=hp;obtain ⟨b,rfl,hb⟩:=h3 x hx
 have hd:((d:Nat):Rat)≠0:=by
  intro e;have:d=0:=by exact_mod_cast e
  omega
 have he:((e:Nat):Rat)≠0:=by
  intro k;have:e=0:=by exact_mod_cast k
  omega
 refine ⟨d*e,Nat.mul_pos h1 g1,by have:=zT3 d e;omega,fun y hy => ?_⟩;obtain ⟨u,hu,v,hv,rfl⟩:=yE hy;obtain ⟨a,rfl,ha⟩:=h3 u hu;obtain ⟨c,rfl,hc⟩:=g3 v hv;refine ⟨a*(e:Int)-b*c,?_,?_⟩
 ·rw [zS2 a (by omega),zS2 b (by omega),zS2 c (by omega),zS2 _ (by have:=Nat.mul_pos h1 g1;omega),Rat.intCast_sub,Rat.intCast_mul,Rat.intCast_mul,Rat.intCast_natCast,Rat.natCast_mul]
  grind
 ·refine qS6 (m:=S+S') (zO3 ha (by rw [zP6];exact g2)) (zO3 hb hc)
def zG8 (T:List (List Rat)) (S:Nat):Prop:=∀ r∈T,zL5 r S
theorem zG8.mono {T:List (List Rat)} {S S':Nat} (h:zG8 T S) (hS:S<=S'):zG8 T S':=fun r hr=>(h r hr).mono hS
theorem zG8.len {T:List (List Rat)} {S:Nat} (h:zG8 T S):zH6 T S:=fun r hr=>(h r hr).len
theorem yZ6 {T:List (List Rat)} {n C m:Nat} (hs:shp T n C) (h:zH6 T m):zG8 T (m*C+1):=fun r hr=>by
 rw [<- hs.2 r hr];exact qL8 (h r hr)
def pv (ps:List Nat):Nat->Nat:=fun i=>ps.getD i 0
theorem qS7 (ps:List Nat) (a i:Nat) (hi:i<ps.length+1):(if i<ps.length then pv ps i else a)=pv (ps ++ [a]) i:=by
 unfold pv;by_cases h:i<ps.length
 ·rw [if_pos h,zA6,zA6,zB0 h]
 ·obtain rfl:i=ps.length:=by omega
  rw [if_neg h,zA6,List.getElem?_append_right (by omega)];simp
theorem yF4 {T:List (List Rat)} {P:Nat->Bool} {p:List Rat} {n C a k:Nat} (hs:shp T n C) (hk:T[k]?=some p) (ha:a<C) {x:Nat} (hx:x<=n) (i j:Nat) (hj:j<C):zC0 (zF9 T P p a x) i j=zJ1 (zC0 T) k (fun i=>if i<x/\P i=true then zC0 T i a else 0) i j:=by
 have hp:p.length=C:=hs.2 p (zA5 hk);rw [yF3 hs hp x i j hx hj];unfold zJ1;rw [zQ hk j];by_cases e:i<x/\P i=true
 ·simp only [if_pos e]
 ·simp only [if_neg e];grind
theorem qG1 {T:List (List Rat)} {P:Nat->Bool} {p:List Rat} {a:Nat}:∀ x,(∀ i,i<x->P i=false)->zF9 T P p a x=T
 | 0,_=>rfl
 | x+1,h=>by rw [qS5 (h x (by omega))];exact qG1 x fun i hi=>h i (by omega)
theorem qS8 {T:List (List Rat)} {n C a b S:Nat} (hs:shp T n C) (ha:a<n) (hb:b<n) (h:zG8 T S):zG8 (zG7 T a b) S:=by
 obtain ⟨r,h1,_⟩:=zH7 hs ha;obtain ⟨s,h3,_⟩:=zH7 hs hb;unfold zG7;rw [zJ2 h1,zJ2 h3];intro x hx;rcases List.mem_or_eq_of_mem_set hx with hx | rfl
 ·rcases List.mem_or_eq_of_mem_set hx with hx | rfl
  ·exact h x hx
  ·exact h _ (zA5 h3)
 ·exact h _ (zA5 h1)
theorem yZ7 {T:List (List Rat)} {n C k a S:Nat} (hs:shp T n C) (hk:k<n) (ha:a<C) (h0:zC0 T k a≠0) (h:zG8 T S):zG8 (zO5 T k (zC0 T k a)⁻¹) S:=by
 obtain ⟨r,h1,_,h2⟩:=zW4 hs hk ha;unfold zO5;rw [zJ2 h1];intro x hx;rcases List.mem_or_eq_of_mem_set hx with hx | rfl
 ·exact h x hx
 ·exact (h r (zA5 h1)).scale (zA5 h2) h0
theorem qL9 {T:List (List Rat)} {P:Nat->Bool} {p:List Rat} {n C a S:Nat} (hs:shp T n C) (ha:a<C) (h:zG8 T S) (hp:zL5 p S):∀ x,x<=n->zG8 (zF9 T P p a x) (S+S+1)
  | 0,_=>h.mono (by omega)
  | x + 1, hx => by
    have ih:=qL9 (P:=P) hs ha h hp x (by omega);obtain ⟨r,h1,_,h2⟩:=zW4 hs (show x<n by omega) ha;by_cases e:P x=true
    · rw [qL7 e h1];intro y hy;rcases List.mem_or_eq_of_mem_set hy with hy | rfl
      · exact ih y hy
      · exact (h r (zA5 h1)).less hp (zA5 h2)
    · rw [qS5 (by simpa using e)];exact ih
def zK2 (T:List (List Rat)) (P:Nat->Bool) (k f a n:Nat):List (List Rat) :=
 zF9 (zO5 (zG7 T k f) k (zC0 (zG7 T k f) k a)⁻¹) P ((zO5 (zG7 T k f) k (zC0 (zG7 T k f) k a)⁻¹).getD k []) a n
theorem yZ8 {T:List (List Rat)} {k:Nat} (h:k<T.length):zG7 T k k=T:=by
 unfold zG7;have e:T.getD k []=T[k]:=by rw [zA6,zA3 h];rfl
 rw [e];apply List.ext_getElem?;intro i;rw [List.getElem?_set,List.getElem?_set,zB3];by_cases hi:k=i
 ·subst hi;rw [if_pos rfl,if_pos h,zA3 h]
 ·rw [if_neg hi,if_neg hi]
structure PivAt (T:List (List Rat)) (P:Nat->Bool) (n C k f a:Nat) (p:Nat->Nat):Prop where
 sh:shp T n C
 ech:Ech n a (zC0 T) k p
 ha:a<C
 hk:k<=f
 hf:f<n
 hne:zC0 T f a≠0
 hP:P k=false
theorem PivAt.inv {T:List (List Rat)} {P:Nat->Bool} {n C k f a:Nat} {p:Nat->Nat} (h:PivAt T P n C k f a p):zC0 T f a*(zC0 T f a)⁻¹ = 1:=Rat.mul_inv_cancel _ h.hne
theorem PivAt.inv_ne {T:List (List Rat)} {P:Nat->Bool} {n C k f a:Nat} {p:Nat->Nat} (h:PivAt T P n C k f a p):(zC0 T f a)⁻¹ ≠ 0:=fun e=>by
 have h1:=h.inv;rw [e] at h1
 revert h1
 rw [Rat.mul_zero]
 decide
theorem PivAt.head {T:List (List Rat)} {P:Nat->Bool} {n C k f a:Nat} {p:Nat->Nat} (h:PivAt T P n C k f a p):zC0 (zG7 T k f) k a=zC0 T f a:=by
 have h1:=h.hk;have h2:=h.hf;rw [qL5 h.sh (by omega) h.hf];exact congrFun (if_pos rfl) a
theorem PivAt.parts {T:List (List Rat)} {P:Nat->Bool} {n C k f a:Nat} {p:Nat->Nat} (h:PivAt T P n C k f a p) :
  ∃ (t:Nat->Rat),t k=0/\(∀ i,i<n->P i=true->t i=zG0 (zE9 (zC0 T) k f) k (zC0 T f a)⁻¹ i a) /\
   (∀ i j,j<C->zC0 (zK2 T P k f a n) i j=zJ1 (zG0 (zE9 (zC0 T) k f) k (zC0 T f a)⁻¹) k t i j)/\shp (zK2 T P k f a n) n C/\zG0 (zE9 (zC0 T) k f) k (zC0 T f a)⁻¹ k a=1:=by
 have h1:=h.hk;have h2:=h.hf;have hk:k<n:=by omega
 have s1:=qF9 h.sh hk h2;have s2:=yF2 (zC0 (zG7 T k f) k a)⁻¹ s1 hk
 have e2:∀ i j,j<C->zC0 (zO5 (zG7 T k f) k (zC0 (zG7 T k f) k a)⁻¹) i j=zG0 (zE9 (zC0 T) k f) k (zC0 T f a)⁻¹ i j:=fun i j hj=>by
  rw [yZ4 _ s1 hk i j hj,h.head];unfold zG0;rw [qL5 h.sh hk h2]
 obtain ⟨r,hr,hrl⟩:=zH7 s2 hk;have hP:¬ (k<n/\P k=true):=fun e=>by rw [h.hP] at e;exact absurd e.2 (by decide)
 refine ⟨fun i=>if i<n/\P i=true then zC0 (zO5 (zG7 T k f) k (zC0 (zG7 T k f) k a)⁻¹) i a else 0,if_neg hP,fun i h3 h4 => ?_,fun i j hj => ?_,?_,?_⟩
 ·show (if i<n/\P i=true then _ else _)=_
  rw [if_pos ⟨h3,h4⟩,e2 i a h.ha]
 ·unfold zK2;rw [zJ2 hr,yF4 s2 hr h.ha (zB4 n) i j hj];unfold zJ1;rw [e2 i j hj,e2 k j hj]
 ·unfold zK2;rw [zJ2 hr];exact qG0 s2 hrl n (zB4 n)
 ·unfold zG0 zE9;rw [if_pos rfl,if_pos rfl];exact h.inv
theorem PivAt.ker {T:List (List Rat)} {P:Nat->Bool} {n C k f a:Nat} {p:Nat->Nat} (h:PivAt T P n C k f a p):zH2 n C (zC0 T) (zC0 (zK2 T P k f a n)):=by
 obtain ⟨t,t0,t1,e,_,_⟩:=h.parts;have h1:=h.hk;have h2:=h.hf;exact (yE6 (zC0 T) (show k<n by omega) h2).trans ((yE7 _ h.inv_ne).trans ((qR9 _ (show k<n by omega) t0).trans (zZ fun i j _ hj=>(e i j hj).symm)))
theorem PivAt.ech' {T:List (List Rat)} {P:Nat->Bool} {n C k f a:Nat} {p:Nat->Nat} (h:PivAt T P n C k f a p) (hb:∀ i,k<i->i<n->P i=true):Ech n (a+1) (zC0 (zK2 T P k f a n)) (k+1) (fun i=>if i<k then p i else a):=by
 obtain ⟨t,t0,t1,e,_,e1⟩:=h.parts;have h1:=h.hk;have h2:=h.hf;have h3:=h.ha;exact (((h.ech.swap h1 h2).scale (zC0 T f a)⁻¹).clear (by omega) e1 t0 (fun i hi hn=>t1 i hn (hb i hi hn))).congr (C:=C) (by omega) (fun i j _ hj=>(e i j hj).symm) (fun _ _=>rfl)
theorem PivAt.red {T:List (List Rat)} {P:Nat->Bool} {n C k f a:Nat} {p:Nat->Nat} (h:PivAt T P n C k f a p) (hr:Red n (zC0 T) k p 0) (hb:∀ i,i≠k->i<n->P i=true):Red n (zC0 (zK2 T P k f a n)) (k+1) (fun i=>if i<k then p i else a) 0:=by
 obtain ⟨t,t0,t1,e,_,e1⟩:=h.parts;have h1:=h.hk;have h2:=h.hf;have h3:=h.ha;refine (Red.clear ((hr.swap h1 h2).scale (zC0 T f a)⁻¹) ((h.ech.swap h1 h2).scale (zC0 T f a)⁻¹) (by omega) e1 t0 (fun i hi hn=>t1 i hn (hb i hi hn))).congr (C:=C) (fun i hi => ?_) (fun i j _ hj=>(e i j hj).symm) (fun _ _=>rfl);by_cases e:i<k
 ·simp only [if_pos e];have:=h.ech.lt i e;omega
 ·simp only [if_neg e];exact h3
theorem PivAt.fn {T:List (List Rat)} {P:Nat->Bool} {n C k f a:Nat} {p:Nat->Nat} (h:PivAt T P n C k f a p) {C':Nat} {F:(Nat->Nat->Rat)->Rat} (hC:C'<=C) (hF:RowFn n C' F):F (zC0 T)=(if f=k then 1 else -1)*zC0 T f a*F (zC0 (zK2 T P k f a n)):=by
 obtain ⟨t,t0,t1,e,_,e1⟩:=h.parts;have h1:=h.hk;have h2:=h.hf
 have g1:F (zC0 (zK2 T P k f a n))=(zC0 T f a)⁻¹ * F (zE9 (zC0 T) k f):=by
  rw [hF.congr _ _ (fun i j _ hj=>e i j (by omega)),hF.clear _ (show k<n by omega) t0,hF.scale _ _ _ (by omega)]
 have hi:=h.inv;rw [g1];by_cases ef:f=k
 ·subst ef
  have g2:F (zE9 (zC0 T) f f)=F (zC0 T):=hF.congr _ _ fun i j _ _=>by
   unfold zE9;by_cases e5:i=f
   ·rw [if_pos e5,e5]
   ·rw [if_neg e5,if_neg e5]
  rw [g2,if_pos rfl];grind
 ·rw [hF.swap _ (show k<n by omega) h2 (fun e=>ef e.symm),if_neg ef];grind
theorem PivAt.rows {T:List (List Rat)} {P:Nat->Bool} {n C k f a S:Nat} {p:Nat->Nat} (h:PivAt T P n C k f a p) (hl:zG8 T S):zG8 (zO5 (zG7 T k f) k (zC0 (zG7 T k f) k a)⁻¹) S/\zG8 (zK2 T P k f a n) (S+S+1)/\((∀ i,i<n->P i=false)->zG8 (zK2 T P k f a n) S):=by
 have h1:=h.hk;have h2:=h.hf;have hk:k<n:=by omega
 have s1:=qF9 h.sh hk h2;have s2:=yF2 (zC0 (zG7 T k f) k a)⁻¹ s1 hk;have r1:=qS8 h.sh hk h2 hl;have r2:=yZ7 s1 hk h.ha (by rw [h.head];exact h.hne) r1;obtain ⟨r,hr,hrl⟩:=zH7 s2 hk;refine ⟨r2,?_,fun hn => ?_⟩
 ·unfold zK2;rw [zJ2 hr];exact qL9 s2 h.ha r2 (r2 r (zA5 hr)) n (zB4 n)
 ·unfold zK2;rw [qG1 n hn];exact r2
structure Dwn (T0 T:List (List Rat)) (n C a:Nat) (ps:List Nat) (d:Rat) (S:Nat):Prop where
 sh:shp T n C
 ech:Ech n a (zC0 T) ps.length (pv ps)
 ker:zH2 n C (zC0 T0) (zC0 T)
 fn:∀ (C':Nat) (F:(Nat->Nat->Rat)->Rat),C'<=C->RowFn n C' F->F (zC0 T0)=d*F (zC0 T)
 ne:d≠0
 len:∃ S',zG8 T S'/\S'+1<=(S+1)*2^(min ps.length (n-1))
theorem Dwn.start {T:List (List Rat)} {n C S:Nat} (hs:shp T n C) (hl:zG8 T S):Dwn T T n C 0 [] 1 S :=
 ⟨hs,Ech.zero n _ _,zH2.refl _ _ _,fun C' F _ _=>(Rat.one_mul _).symm,by decide,⟨S,hl,by simp⟩⟩
theorem Dwn.skip {T0 T:List (List Rat)} {n C a S:Nat} {ps:List Nat} {d:Rat} (h:Dwn T0 T n C a ps d S) (h0:∀ i,ps.length<=i->i<n->zC0 T i a=0):Dwn T0 T n C (a+1) ps d S :=
 ⟨h.sh,h.ech.skip h0,h.ker,h.fn,h.ne,h.len⟩
theorem Dwn.at_ {T0 T:List (List Rat)} {n C a f S:Nat} {ps:List Nat} {d:Rat} (h:Dwn T0 T n C a ps d S) (ha:a<C) (hk:ps.length<=f) (hf:f<n) (hne:zC0 T f a≠0):PivAt T (fun i=>decide (ps.length<i)) n C ps.length f a (pv ps) :=
 ⟨h.sh,h.ech,ha,hk,hf,hne,by simp⟩
theorem qM {S S' m:Nat} (h:S'+1<=(S+1)*2^m):S'+S'+1+1<=(S+1)*2^(m+1):=by
 rw [Nat.pow_succ,<- zB6];omega
theorem Dwn.pivot {T0 T:List (List Rat)} {n C a f S:Nat} {ps:List Nat} {d:Rat} (h:Dwn T0 T n C a ps d S) (ha:a<C) (hk:ps.length<=f) (hf:f<n) (hne:zC0 T f a≠0):Dwn T0 (zK2 T (fun i=>decide (ps.length<i)) ps.length f a n) n C (a+1) (ps ++ [a]) ((if f=ps.length then d else -d)*zC0 T f a) S:=by
 have g:=h.at_ ha hk hf hne;obtain ⟨t,t0,t1,e,s3,e1⟩:=g.parts;have hl:(ps ++ [a]).length=ps.length+1:=by simp
 refine ⟨s3,?_,h.ker.trans g.ker,fun C' F hC hF => ?_,?_,?_⟩
 ·rw [hl];exact (g.ech' (fun i hi _=>by simpa using hi)).congr (C:=C) (by omega) (fun _ _ _ _=>rfl) (fun i hi=>qS7 ps a i hi)
 ·rw [h.fn C' F hC hF,g.fn hC hF];by_cases ef:f=ps.length
  ·rw [if_pos ef,if_pos ef];grind
  ·rw [if_neg ef,if_neg ef];grind
 ·intro e0;rcases Rat.mul_eq_zero.1 e0 with h1 | h1
  ·have:=h.ne
   by_cases ef:f=ps.length
   ·rw [if_pos ef] at h1;exact this h1
   ·rw [if_neg ef] at h1;grind
  ·exact hne h1
 ·obtain ⟨S',r,hS⟩:=h.len;obtain ⟨_,r2,r3⟩:=g.rows r;rw [hl];by_cases hn:ps.length+1<n
  ·refine ⟨_,r2,?_⟩;rw [show min (ps.length+1) (n-1)=ps.length+1 by omega];rw [show min ps.length (n-1)=ps.length by omega] at hS;exact qM hS
  ·refine ⟨_,r3 (fun i hi=>by simp;omega),?_⟩;rw [show min (ps.length+1) (n-1)=n-1 by omega];rw [show min ps.length (n-1)=n-1 by omega] at hS;exact hS
structure Upw (T0 T:List (List Rat)) (n C a:Nat) (ps:List Nat) (u S:Nat):Prop where
 sh:shp T n C
 ech:Ech n a (zC0 T) ps.length (pv ps)
 red:Red n (zC0 T) ps.length (pv ps) u
 ker:zH2 n C (zC0 T0) (zC0 T)
 len:∃ S',zG8 T S'/\S'+1<=(S+1)*2^(ps.length-max u 1)
theorem Upw.start {T0 T:List (List Rat)} {n C a S:Nat} {ps:List Nat} (hs:shp T n C) (he:Ech n a (zC0 T) ps.length (pv ps)) (hk:zH2 n C (zC0 T0) (zC0 T)) (hl:zG8 T S):Upw T0 T n C a ps ps.length S :=
 ⟨hs,he,fun m h1 h2=>by omega,hk,S,hl,by rw [show ps.length-max ps.length 1=0 by omega];simp⟩
def upT (T:List (List Rat)) (m b:Nat):List (List Rat):=zF9 T (fun _=>true) (T.getD m []) b m
theorem Upw.step {T0 T:List (List Rat)} {n C a m S:Nat} {ps:List Nat} (h:Upw T0 T n C a ps (m+1) S) (ha:a<=C) (hm:m<ps.length):Upw T0 (upT T m (pv ps m)) n C a ps m S:=by
 have hle:=h.ech.le;have hlt:=h.ech.lt m hm;obtain ⟨r,hr,hrl⟩:=zH7 h.sh (show m<n by omega)
 have e:∀ i j,j<C->zC0 (upT T m (pv ps m)) i j=zJ1 (zC0 T) m (fun i=>if i<m then zC0 T i (pv ps m) else 0) i j:=fun i j hj=>by
  unfold upT;rw [zJ2 hr,yF4 h.sh hr (show pv ps m<C by omega) (show m<=n by omega) i j hj];unfold zJ1;by_cases e:i<m
  ·simp [e]
  ·simp [e]
 have t1:∀ i,m<=i->(fun i=>if i<m then zC0 T i (pv ps m) else 0) i=0:=fun i hi=>if_neg (by omega);have t2:∀ i,i<m->(fun i=>if i<m then zC0 T i (pv ps m) else 0) i=zC0 T i (pv ps m):=fun i hi=>if_pos hi;refine ⟨?_,?_,?_,?_,?_⟩
 ·unfold upT;rw [zJ2 hr];exact qG0 h.sh hrl m (by omega)
 ·exact (h.ech.up hm t1).congr (C:=C) ha (fun i j _ hj=>(e i j hj).symm) (fun _ _=>rfl)
 ·exact (h.red.up h.ech hm t1 t2).congr (C:=C) (fun i hi=>by have:=h.ech.lt i hi;omega) (fun i j _ hj=>(e i j hj).symm) (fun _ _=>rfl)
 ·exact h.ker.trans ((qR9 _ (show m<n by omega) (t1 m (zB4 m))).trans (zZ fun i j _ hj=>(e i j hj).symm))
 ·obtain ⟨S',r1,hS⟩:=h.len;by_cases h0:m=0
  ·subst h0;exact ⟨S',r1,hS⟩
  ·refine ⟨S'+S'+1,?_,?_⟩
   ·unfold upT;rw [zJ2 hr];exact qL9 h.sh (by omega) r1 (r1 r (zA5 hr)) m (by omega)
   ·rw [show ps.length-max m 1=(ps.length-max (m+1) 1)+1 by omega];exact qM hS
structure Rdc (T0 T:List (List Rat)) (n C a:Nat) (ps:List Nat) (S:Nat):Prop where
 sh:shp T n C
 ech:Ech n a (zC0 T) ps.length (pv ps)
 red:Red n (zC0 T) ps.length (pv ps) 0
 ker:zH2 n C (zC0 T0) (zC0 T)
 len:∃ S',zG8 T S'/\S'+1<=(S+1)*2^ps.length
theorem Rdc.start {T:List (List Rat)} {n C S:Nat} (hs:shp T n C) (hl:zG8 T S):Rdc T T n C 0 [] S :=
 ⟨hs,Ech.zero n _ _,fun m _ h=>by simp at h,zH2.refl _ _ _,S,hl,by simp⟩
theorem Rdc.skip {T0 T:List (List Rat)} {n C a S:Nat} {ps:List Nat} (h:Rdc T0 T n C a ps S) (h0:∀ i,ps.length<=i->i<n->zC0 T i a=0):Rdc T0 T n C (a+1) ps S :=
 ⟨h.sh,h.ech.skip h0,h.red,h.ker,h.len⟩
theorem Rdc.at_ {T0 T:List (List Rat)} {n C a f S:Nat} {ps:List Nat} (h:Rdc T0 T n C a ps S) (ha:a<C) (hk:ps.length<=f) (hf:f<n) (hne:zC0 T f a≠0):PivAt T (fun i=>decide (i≠ps.length)) n C ps.length f a (pv ps) :=
 ⟨h.sh,h.ech,ha,hk,hf,hne,by simp⟩
theorem Rdc.pivot {T0 T:List (List Rat)} {n C a f S:Nat} {ps:List Nat} (h:Rdc T0 T n C a ps S) (ha:a<C) (hk:ps.length<=f) (hf:f<n) (hne:zC0 T f a≠0):Rdc T0 (zK2 T (fun i=>decide (i≠ps.length)) ps.length f a n) n C (a+1) (ps ++ [a]) S:=by
 have g:=h.at_ ha hk hf hne;obtain ⟨t,t0,t1,e,s3,e1⟩:=g.parts;have hl:(ps ++ [a]).length=ps.length+1:=by simp
 refine ⟨s3,?_,?_,h.ker.trans g.ker,?_⟩
 ·rw [hl];exact (g.ech' (fun i hi _=>by simp;omega)).congr (C:=C) (by omega) (fun _ _ _ _=>rfl) (fun i hi=>qS7 ps a i hi)
 ·rw [hl];refine (g.red h.red (fun i hi _=>by simpa using hi)).congr (C:=C) (fun i hi => ?_) (fun _ _ _ _=>rfl) (fun i hi=>qS7 ps a i hi);by_cases e:i<ps.length
  ·simp only [if_pos e];have:=h.ech.lt i e;omega
  ·simp only [if_neg e];exact ha
 ·obtain ⟨S',r,hS⟩:=h.len;obtain ⟨_,r2,_⟩:=g.rows r;rw [hl];exact ⟨_,r2,qM hS⟩
end Go.Proofs.YtagaabooccnamaaGreat.rat
namespace Go.Proofs.YtagaabooccnamaaGreat.flow
open Go.RowKit num mem whl rat
def pone (φ : Pd):Pd:=⟨fun w v => ∃ g x y z,v=.slice (some ⟨g,0,none⟩) 1 1/\w.cell? ((⟨g,0,none⟩:Addr).add 0)=some x/\w.cell? ((⟨g,0,none⟩:Addr).add 1)=some y/\w.cell? ((⟨g,0,none⟩:Addr).add 2)=some z /\ φ.p w (.agg #[x,y,z]),fun h hb=>by
 obtain ⟨g,x,y,z,h0,h1,h2,h3,h4⟩:=h;exact ⟨g,x,y,z,h0,(hb.cell (World.block_lt_of_cell? _ _ h1)).trans h1,(hb.cell (World.block_lt_of_cell? _ _ h2)).trans h2,(hb.cell (World.block_lt_of_cell? _ _ h3)).trans h3,φ.up h4 hb⟩⟩
section
variable {P:Program} {Q:Exit->Act->World->Prop} {ops:Array Oper} {L:List Oper} {Φ : List Pd} {w0:World} {a0:Act} {i:Nat} {o:Oper}
theorem qS9 {t T:TypeId} {x:Operand} {φ : Pd} {F:World->Value->Prop} (hop:o.op=.buildSlice t 1 #[(0,x)]) (hg:o.guard=none) (hx:Ev L Φ w0 a0 o x F) (hu:P.underlying t=some (.slice T)) (hI:∃ i,P.info? T=some i/\i.zero=some (.agg #[.bool false,.slice none 0 0,.slice none 0 0])/\i.size=3/\i.bytes=56)
  (hF:∀ w v,F w v -> φ.p w v /\ ∃ a b c,v=.agg #[a,b,c]/\a.oneCell'=true/\b.oneCell'=true/\c.oneCell'=true) (hP:∀ w v,(pone φ).p w v->(ph Φ i).p w v):Ob P Q ops L Φ w0 a0 i o:=by
 intro ms w hS;rw [if_pos (zB7 (ops:=ops) (L:=L) (Φ:=Φ) (w0:=w0) (a0:=a0) hg ms w hS)];obtain ⟨h1,a,b,c,hv,ka,kb,kc⟩:=hF _ _ (hx ms w hS);obtain ⟨inf,hi,hz,hs,hb⟩:=hI
 have hr:(execOp (zE2 a0 L ms).eval o).run P w=.ok (.value (.slice (some ⟨w.heap.size,0,none⟩) 1 1)) (w.alloc (.cells #[a,b,c] T)):=by
  generalize zE2 a0 L ms=A at hv
  have hz0:(zeroValue T).run P w=.ok (.agg #[.bool false,.slice none 0 0,.slice none 0 0]) w:=by simp [zeroValue,go_sem,typeInfo,hi,hz]
  simp only [hop,execOp,List.map_toArray,List.map_cons,List.map_nil,hv]
  generalize A.eval=ev
  simp [go_sem,run_underlying hu,sizeOf,typeInfo,hi,newRow,hs,hz0]
 unfold Oper.wp;rw [hr];obtain ⟨c0,c1,c2⟩:=qR6 w T a b c;have hbb:=zD1 (w:=w) (zB4 _) (.cells #[a,b,c] T);exact ⟨_,rfl,hbb,hP _ _ ⟨_,a,b,c,rfl,c0,c1,c2,φ.up (hv ▸ h1) hbb⟩,fun h=>by unfold isA at h;rw [hop] at h;cases h⟩
theorem yF5 {fuel:Nat} {listed:Array Bool} {a:Act} {w:World} (s x:Operand) {t:TypeId} (hr:Region.ready .any ops listed=[i]) (ho:ops[i]?=some o) (hg:o.guard=none) (hop:o.op=.call { callee:=.builtin .append,args:=#[s,x],argTypes:=#[t,t] })
  {base:Nat} {T:TypeId} (hT:P.underlying t=some (.slice T)) (hI:∃ i,P.info? T=some i/\i.zero=some (.agg #[.bool false,.slice none 0 0,.slice none 0 0])/\i.size=3/\i.bytes=56) {v:Value} {p:Elt} {ps:List Elt} (hs:a.eval s=v) (hown:zD4 T w base v ps) {ad:Addr} {c:Nat} (hx:a.eval x=.slice (some ad) 1 c)
  (h0:w.cell? (ad.add 0)=some (.bool (ngB p.1.num))) (h1:w.cell? (ad.add 1)=some p.2.1) (h2:w.cell? (ad.add 2)=some p.2.2) (k1:p.2.1.oneCell'=true) (k2:p.2.2.oneCell'=true) (hlen:ps.length<=1000000000) (hbase:base<=w.heap.size)
  (h:∀ v' w' b,zD4 T w' base v' (ps ++ [p])->Below base w w'->Hid (zH5 w w' v v')->a.put o.dst v'=b->wpAny P .any ops Q fuel (listed.setIfInBounds i true) b w'):wpAny P .any ops Q (fuel+1) listed a w :=
 qK hr ho hg (qR5 s x hop hT hI hs hown hx h0 h1 h2 k1 k2 hlen hbase fun v' w' r b k=>h v' w' _ r b k rfl)
end
end Go.Proofs.YtagaabooccnamaaGreat.flow
namespace Go.Proofs.YtagaabooccnamaaGreat.rat
open Go.RowKit num mem nat txt str flow whl
end Go.Proofs.YtagaabooccnamaaGreat.rat
namespace Go.Proofs.YtagaabooccnamaaGreat.whl
open Go.RowKit num mem nat txt str flow
def prf (z:Int) (B:Nat):Pd:=⟨fun w v=>IsR w v z/\zQ4 B v,fun h hb=>⟨h.1.below hb,h.2⟩⟩
def qM0 (z:Int) (w:World) (e:Ending) (w':World):Prop:=∃ v,e=.returned v/\IsR w' v z/\zQ4 w.heap.size v/\Below w.heap.size w w'
theorem qM0.pd {z:Int} {w:World} {e:Ending} {w':World} {B:Nat} (h:qM0 z w e w') (hB:B<=w.heap.size):zJ4 (prf z B) w e w':=by
 obtain ⟨v,h1,h2,h3,h4⟩:=h;exact ⟨v,h1,⟨h2,h3.mono hB⟩,h4⟩
theorem yZ9 (b:Bool) (u:Value) (x:Nat) (z:Int) (w:World) {B:Nat} (h:IsS w .i64 u (digs 10000 x)) (hf:zE3 B u) (hz:sg b x=z):Calls prog 135 #[.bool b,u] w (zJ4 (prf z B) w) :=
 (yB8 b u x w h).mono fun e w' h'=>⟨_,h'.1,⟨zH3 (h.below h'.2) (by rw [<- hz,zS]) (by rw [hz]),zM0 hf⟩,h'.2⟩
end Go.Proofs.YtagaabooccnamaaGreat.whl
namespace Go.Proofs.YtagaabooccnamaaGreat.rat
open Go.RowKit num mem nat txt str flow whl
theorem jA (a0:Value) (x:Int) (w:World) (h0:IsZ w a0 x) (hl:zC4 x<=30000) :
  Calls prog 98 #[a0] w (qM0 x w):=by
 obtain ⟨u0,rfl,s0⟩:=h0;obtain ⟨A0,c0,rfl,_⟩:=id s0;have HL:Hid ((digs 4294967296 x.natAbs).length<=100000):=by show _<=_;unfold zC4 at hl;omega
 have HZ:Hid (sg (ngB x) x.natAbs=x):=by show _=_;exact zV4 x
 go_enter func98,ntmps98
 go_upto_region 1 with (fail)
 obtain ⟨wx,hwx,bb,B0,B1,hsz⟩:=zH4 w 60 63 #[.bool (ngB x),.slice A0 (digs 4294967296 (x).natAbs).length c0] #[.bool false,.slice none 0 0];rw [hwx];clear hwx;have k0s:=s0.below bb;have k0:IsZ wx (.agg #[.bool (ngB x),.slice A0 (digs 4294967296 (x).natAbs).length c0]) (x):=zF2 k0s rfl rfl;have hszb:=bb.size;refine flow 6 [Pd.eq (.pointer (some ⟨w.heap.size,0,none⟩)),Pd.eq (.bool (ngB x)),Pd.eq (.pointer (some ⟨w.heap.size,1,none⟩)),Pd.eq (.slice A0 (digs 4294967296 (x).natAbs).length c0),ps .i64 (digs 10000 x.natAbs) wx.heap.size,prf (x) wx.heap.size] (by kernel_rfl) (by kernel_rfl) ?ob1 ?done1
 case ob1 =>
  refine zA (zC1 rfl (zB7 rfl) (zB9 rfl rfl) (fun _=>by kernel_rfl) (fun _=>rfl)) ?_;refine zA (zC rfl (zB7 rfl) (zB8 (j:=0) (by kernel_rfl) rfl rfl) (fun w2 hb=>zC3 underlying4 rfl ((B0.drew.below hb).cell 0)) (fun _ _=>rfl)) ?_;refine zA (zC1 rfl (zB7 rfl) (zB9 rfl rfl) (fun _=>by kernel_rfl) (fun _=>rfl)) ?_;refine zA (zC rfl (zB7 rfl) (zB8 (j:=2) (by kernel_rfl) rfl rfl) (fun w2 hb=>zC3 underlying50 rfl ((B0.drew.below hb).cell 1)) (fun _ _=>rfl)) ?_;refine zA (zF6 rfl func100 (by kernel_rfl) (zB7 rfl) (zB8 (j:=3) (by kernel_rfl) rfl rfl) (fun w2 u0 hb h0=>by obtain rfl:=h0;exact (qC8 _ _ _ (k0s.drew.below hb) HL.out).mono fun e w3 h=>zD7.pd h hb.size)) ?_;refine zA (zD0 rfl func135 (by kernel_rfl) (zB7 rfl) (zB8 (j:=1) (by kernel_rfl) rfl rfl) (zB8 (j:=4) (by kernel_rfl) rfl rfl) (fun w2 u0 u1 hb h0 h1=>by obtain rfl:=h0;exact yZ9 _ _ _ (x) _ h1.1 h1.2 HZ.out)) ?_
  trivial
 case done1 =>
  refine fun w1 hb1 v0 h0 v1 h1 v2 h2 v3 h3 v4 h4 v5 h5 b hbf => ?_;obtain rfl:=h0;obtain rfl:=h1;obtain rfl:=h2;obtain rfl:=h3;obtain ⟨q4,f4⟩:=h4;obtain ⟨q5,f5⟩:=h5;simp only [Act.put,zA0,zA2,zA1] at hbf;subst hbf;obtain ⟨u5,rfl,q5⟩:=q5;obtain ⟨A9,c9,rfl,_⟩:=id q5;have B9:=B1.below hb1;refine zI (i:=6) (by kernel_rfl) rfl rfl rfl rfl rfl rfl (cells:=[.bool (ngB (x)),.slice A9 (digs 10000 (x).natAbs).length c9]) rfl B9 rfl (by kernel_rfl) (zG6 rfl rfl) fun w9 hg9 BB9 => ?_;have k9:=off q5 B9 no_ints2 hg9;have f9:=(f5 _ _ rfl).mono (show w.heap.size<=wx.heap.size from bb.size);have bb9:=((bb.trans (hb1.mono bb.size)).trans ((Below.refl _ _).grown hg9 (zB5 bb.size hb1.size) (fun g hg=>by injection hg with hg;omega)));obtain ⟨c0,c1,_,_⟩:=Blk.two BB9;refine zF8 (by kernel_rfl) ?_;go_wp2;exact bodyPost_ret (v:=.agg #[.bool (ngB (x)),.slice A9 (digs 10000 (x).natAbs).length c9]) (by simp [results,results98,go_sem,c0,c1]) rfl ⟨_,rfl,zH3 k9 rfl rfl,zM0 f9,bb9⟩
theorem jA0 (a0:Value) (q:Rat) (w:World) (h0:IsQ w a0 q) (hl:zC6 q 30000) :
  Calls prog 52 #[a0] w (zO1 q w):=by
 obtain ⟨u0,t0,rfl,s0,r0⟩:=h0;obtain ⟨A0,c0,rfl,_⟩:=id s0;obtain ⟨D0,e0,rfl,_⟩:=id r0
 go_enter func52,ntmps52
 go_upto_region 1 with (fail)
 obtain ⟨wx,hwx,bb,B0,BR0,hsz⟩:=zH4 w 83 65 #[.bool (ngB (q).num),.slice A0 (digs 4294967296 (q).num.natAbs).length c0,.slice D0 (digs 4294967296 (q).den).length e0] #[.bool false,.slice none 0 0,.slice none 0 0];rw [hwx];clear hwx;have k0s:=s0.below bb;have k0d:=r0.below bb;have k0z:IsZ wx (.agg #[.bool (ngB (q).num),.slice A0 (digs 4294967296 (q).num.natAbs).length c0]) (q).num:=⟨_,rfl,k0s⟩;have k0:IsQ wx (.agg #[.bool (ngB (q).num),.slice A0 (digs 4294967296 (q).num.natAbs).length c0,.slice D0 (digs 4294967296 (q).den).length e0]) (q):=⟨_,_,rfl,k0s,k0d⟩;have hsz0:=bb.size;have sB:=bb.size;refine flow 7 [Pd.eq (.pointer (some ⟨w.heap.size,0,none⟩)),Pd.eq (.agg #[.bool (ngB (q).num),.slice A0 (digs 4294967296 (q).num.natAbs).length c0]),prf ((q).num) wx.heap.size,Pd.eq (.pointer (some ⟨w.heap.size,2,none⟩)),Pd.eq (.slice D0 (digs 4294967296 (q).den).length e0),ps .i64 (digs 10000 (q).den) wx.heap.size,ppf (q) wx.heap.size] (by kernel_rfl) (by kernel_rfl) ?ob2 ?done2
 case ob2 =>
  refine zA (zC1 rfl (zB7 rfl) (zB9 rfl rfl) (fun _=>by kernel_rfl) (fun _=>rfl)) ?_;refine zA (zC rfl (zB7 rfl) (zB8 (j:=0) (by kernel_rfl) rfl rfl) (fun w2 hb=>zM7 underlying60 rfl (by kernel_rfl) (B0.drew.below hb) rfl) (fun _ _=>rfl)) ?_;refine zA (zF6 rfl func98 (by kernel_rfl) (zB7 rfl) (zB8 (j:=1) (by kernel_rfl) rfl rfl) (fun w2 u0 hb h0=>by obtain rfl:=h0;exact (jA _ _ _ (k0z.drew.below hb) (zB5 hl.1 (by decide))).mono fun e w3 h=>qM0.pd h hb.size)) ?_;refine zA (zC1 rfl (zB7 rfl) (zB9 rfl rfl) (fun _=>by kernel_rfl) (fun _=>rfl)) ?_;refine zA (zC rfl (zB7 rfl) (zB8 (j:=3) (by kernel_rfl) rfl rfl) (fun w2 hb=>zC3 underlying50 rfl ((B0.drew.below hb).cell 2)) (fun _ _=>rfl)) ?_;refine zA (zF6 rfl func100 (by kernel_rfl) (zB7 rfl) (zB8 (j:=4) (by kernel_rfl) rfl rfl) (fun w2 u0 hb h0=>by obtain rfl:=h0;exact (qC8 _ _ _ (k0d.drew.below hb) (zB5 hl.2 (by decide))).mono fun e w3 h=>zD7.pd h hb.size)) ?_;refine zA (zL rfl (zB7 rfl) (zB8 (j:=2) (by kernel_rfl) rfl rfl) (zB8 (j:=5) (by kernel_rfl) rfl rfl) (fun w2 u v hb hu hv=>by obtain ⟨u7,rfl,hu7⟩:=hu.1;obtain ⟨A7,c7,rfl,_⟩:=id hu7;obtain ⟨A8,c8,rfl,_⟩:=id hv.1;exact ⟨.agg #[.bool (ngB (q).num),.slice A7 (digs 10000 (q).num.natAbs).length c7,.slice A8 (digs 10000 (q).den).length c8],by kernel_rfl,⟨⟨_,_,rfl,hu7,hv.1⟩,zM1 (hu.2 _ _ rfl) hv.2⟩⟩)) ?_
  trivial
 case done2 =>
  refine fun w11 hb11 v0 h0 v1 h1 v2 h2 v3 h3 v4 h4 v5 h5 v6 h6 b hbf => ?_;obtain rfl:=h0;obtain rfl:=h1;obtain rfl:=h3;obtain rfl:=h4;obtain ⟨q2,f2⟩:=h2;obtain ⟨q5,f5⟩:=h5;obtain ⟨q6,f6⟩:=h6;simp only [Act.put,zA0,zA2,zA1] at hbf;subst hbf;replace B0:=B0.below hb11;replace k0s:=k0s.below hb11;replace k0d:=k0d.below hb11;replace k0z:=k0z.below hb11;replace k0:=k0.below hb11;replace BR0:=BR0.below hb11;replace bb:=bb.trans (hb11.mono bb.size);have hsz11:=bb.size;have s_2:=sB;have s_5:=sB;have s_6:=sB;obtain ⟨u6,t6,rfl,q6,d6⟩:=q6;obtain ⟨A9,c9,rfl,_⟩:=id q6;obtain ⟨D9,e9,rfl,_⟩:=id d6;refine zI (i:=7) (by kernel_rfl) rfl rfl rfl rfl rfl rfl (cells:=[.bool (ngB (q).num),.slice A9 (digs 10000 (q).num.natAbs).length c9,.slice D9 (digs 10000 (q).den).length e9]) rfl BR0 rfl (by kernel_rfl) (zI6 rfl rfl rfl) fun w9 hg9 B9 => ?_;have k9:=off q6 BR0 zE0 hg9;have d9:=off d6 BR0 zE0 hg9;have f9:=f6.mono (show w.heap.size<=_ from s_6);have bb9:=bb.trans ((Below.refl _ _).grown hg9 bb.size (fun g hg=>by injection hg with hg;omega));obtain ⟨C0,C1,C2,_,_,_⟩:=three B9;refine zF8 (by kernel_rfl) ?_;go_wp2;exact bodyPost_ret (v:=.agg #[.bool (ngB (q).num),.slice A9 (digs 10000 (q).num.natAbs).length c9,.slice D9 (digs 10000 (q).den).length e9]) (by simp [results,results52,go_sem,C0,C1,C2]) rfl ⟨_,rfl,⟨_,_,rfl,k9,d9⟩,f9,bb9⟩
theorem SlF.drew {k:IntKind} {B:Nat} {w:World} {v:Value} {qs:List Rat} (h:SlF k B w v qs):SlF k B w.drew v qs:=h
theorem SlF.off {k:IntKind} {B:Nat} {w w':World} {v:Value} {qs:List Rat} {g:Nat} {e:TypeId} {cs:Array Value} (h:SlF k B w v qs) (hB:w.heap[g]?=some (.cells cs e (0,0))) (hno:∀ c∈cs,∀ n,c ≠ .int k n) (hg:w.grownBy w' (some g)) (hne:v.ownBlock≠some g):SlF k B w' v qs:=by
 obtain ⟨ps,e1,⟨A,c,rfl,h1,h2,h3⟩,h4⟩:=h
 have key:∀ (g2 o2:Nat) (x:Value),A=some ⟨g2,o2,none⟩ -> ∀ j,w.cell? ⟨g2,j,none⟩=some x->w'.cell? ⟨g2,j,none⟩=some x:=fun g2 o2 x hA j hc=>by
  subst hA;have hne2:g2≠g:=fun e=>hne (by subst e;rfl);have hb:=hg.block g2 (World.block_lt_of_cell? w _ hc) (fun e=>hne2 (by injection e));rw [<- hc];simp only [World.cell?,hb]
 refine ⟨ps,e1,⟨A,c,rfl,h1,h2,fun i p hp => ?_⟩,fun p hp=>⟨Go.Proofs.YtagaabooccnamaaGreat.flow.off (h4 p hp).1 hB hno hg,Go.Proofs.YtagaabooccnamaaGreat.flow.off (h4 p hp).2 hB hno hg⟩⟩;obtain ⟨g2,o2,hA,c0,c1,c2⟩:=h3 i p hp;exact ⟨g2,o2,hA,key g2 o2 _ hA _ c0,key g2 o2 _ hA _ c1,key g2 o2 _ hA _ c2⟩
theorem SlF.at2 {k:IntKind} {B:Nat} {w:World} {g o n c:Nat} {qs:List Rat} {i:Nat} {q:Rat} (h:SlF k B w (.slice (some ⟨g,o,none⟩) n c) qs) (hq:qs[i]?=some q):∃ u t,i<n/\w.cell? ⟨g,o+i*3,none⟩=some (.bool (ngB q.num))/\w.cell? ⟨g,o+i*3+1,none⟩=some u/\w.cell? ⟨g,o+i*3+2,none⟩=some t/\IsS w k u (digs B q.num.natAbs)/\IsS w k t (digs B q.den):=by
 obtain ⟨g',o',u,t,hA,h1,h2,h3,h4,h5,h6⟩:=h.at_ hq;injection hA with hA;injection hA with e1 e2;subst e1;subst e2;exact ⟨u,t,h1,h2,h3,h4,h5,h6⟩
theorem SlF.place {k:IntKind} {B:Nat} {w:World} {v:Value} {qs:List Rat} (h:SlF k B w v qs) (hne:qs≠[]):∃ g o c,v=.slice (some ⟨g,o,none⟩) qs.length c/\g<w.heap.size/\qs.length<=c/\c<=maxLen:=by
  obtain ⟨A,c,rfl,h1,h2⟩:=h.shape
  cases qs with
  | nil=>exact absurd rfl hne
  | cons q qs =>
    obtain ⟨g,o,u,t,rfl,_,hc,_⟩:=h.at_ (i:=0) (q:=q) rfl;exact ⟨g,o,c,rfl,World.block_lt_of_cell? w _ hc,h1,h2⟩
theorem SlF.any {k:IntKind} {B:Nat} {w w':World} {v:Value} (h:SlF k B w v []):SlF k B w' v []:=by
 obtain ⟨ps,hp,⟨A,c,h1,h2,h3,_⟩,_⟩:=h;obtain rfl:ps=[]:=List.map_eq_nil_iff.1 hp;exact ⟨[],rfl,⟨A,c,h1,h2,h3,fun i p hp=>by simp at hp⟩,fun p hp=>by cases hp⟩
theorem SlF.lt {k:IntKind} {B:Nat} {w:World} {g o n c:Nat} {qs:List Rat} (h:SlF k B w (.slice (some ⟨g,o,none⟩) n c) qs) (hne:qs≠[]):g<w.heap.size:=by
 obtain ⟨g',o',c',hv,h1,_⟩:=h.place hne;injection hv with hA;injection hA with hA;injection hA with e1;rw [e1];exact h1
theorem SlF.take {k:IntKind} {B:Nat} {w:World} {A:Option Addr} {n c:Nat} {qs:List Rat} (h:SlF k B w (.slice A n c) qs) {m:Nat} (hm:m<=qs.length):SlF k B w (.slice A m c) (qs.take m):=by
 obtain ⟨ps,rfl,⟨A',c',hv,h1,h2,h3⟩,h4⟩:=h;injection hv with e1 e2 e3;subst e1;subst e2;subst e3;rw [zA9] at hm;refine ⟨ps.take m,by rw [List.map_take],⟨A,c,by rw [zB2,Nat.min_eq_left hm],by rw [zB2];omega,h2,fun i p hp=>h3 i p ?_⟩,fun p hp=>h4 p (List.mem_of_mem_take hp)⟩;rw [List.getElem?_take] at hp
 split at hp
 ·exact hp
 ·cases hp
section
variable {P:Program}
theorem yF6 {t:TypeId} (x y:Operand) (a b:Nat) (h:a+b<=9223372036854775807) (w:World):(do eqGuard .add t x y (.int .i64 (a:Int)) (.int .i64 (b:Int));binOp .add t (.int .i64 (a:Int)) (.int .i64 (b:Int))).run P w=.ok (.int .i64 ((a+b:Nat):Int)) w:=by
 have h0:(eqGuard .add t x y (.int .i64 (a:Int)) (.int .i64 (b:Int))).run P w=.ok () w:=by simp [eqGuard]
 have e:IntKind.i64.wrap ((a:Int)+(b:Int))=((a+b:Nat):Int):=by rw [IntKind.wrap_i64];omega
 rw [Sem.run_bind,h0,Result.andThen_ok];simp [binOp,Op.intArith,go_sem,e]
end
def Two (w:World) (v:Value) (p q:List Rat):Prop:=∃ u0 u1,IsV w v [u0,u1]/\SlF .u64 4294967296 w u0 p/\SlF .u64 4294967296 w u1 q
theorem Two.below {w w':World} {v:Value} {p q:List Rat} (h:Two w v p q) (hb:Below w.heap.size w w'):Two w' v p q:=by
 obtain ⟨u0,u1,h1,h2,h3⟩:=h;exact ⟨u0,u1,h1.below hb,h2.below hb,h3.below hb⟩
section
variable {P:Program} {Q:Exit->Act->World->Prop} {ops:Array Oper} {L:List Oper} {Φ : List Pd} {w0:World} {a0:Act} {i:Nat} {o:Oper}
end
end Go.Proofs.YtagaabooccnamaaGreat.rat
namespace Go.Proofs.YtagaabooccnamaaGreat.rat
open Go.RowKit Go.ChangeShapes Go.WideShapes Go.ChangeAt Go.Joins Go.Deep num mem nat txt str flow whl
theorem zY8.below {w w':World} {v:Value} (h:zY8 w v) (hb:Below w.heap.size w w'):zY8 w' v:=by
 obtain ⟨A,n,c,e,h1,h2,h3⟩:=h;refine ⟨A,n,c,e,h1,h2,fun i hi => ?_⟩;obtain ⟨ad,b,u,t,l,m,e2,c0,c1,c2,k1,k2,k3,k4⟩:=h3 i hi;exact ⟨ad,b,u,t,l,m,e2,(hb.cell (World.block_lt_of_cell? w _ c0)).trans c0,(hb.cell (World.block_lt_of_cell? w _ c1)).trans c1,(hb.cell (World.block_lt_of_cell? w _ c2)).trans c2,k1.below hb,k2,k3.below hb,k4⟩
def vi (l:List Int):List Value:=l.map (.int .i64)
theorem vi_len (l:List Int):(vi l).length=l.length:=zA9 _
theorem IsI.take {w:World} {A:Option Addr} {n c:Nat} {l:List Int} (h:IsI w (.slice A n c) l) {m:Nat} (hm:m<=l.length):IsI w (.slice A m c) (l.take m):=by
 obtain ⟨A',c',hv,h1,h2,h3,h4⟩:=h;injection hv with e1 e2 e3;subst e1;subst e2;subst e3;refine ⟨A,c,by rw [zB2,Nat.min_eq_left hm],by rw [zB2];omega,h2,fun z hz=>h3 z (List.mem_of_mem_take hz),fun i z hz=>h4 i z ?_⟩;rw [List.getElem?_take] at hz
 split at hz
 ·exact hz
 ·cases hz
section
variable {P:Program}
end
theorem info_int:∃ i,prog.info? 3=some i/\i.zero=some (.int .i64 0)/\i.size=1/\i.bytes=8:=info_parts (P:=prog) (e:=3) (z:=.int .i64 0) (size:=1) (bytes:=8) (by kernel_rfl)
end Go.Proofs.YtagaabooccnamaaGreat.rat
namespace Go.Proofs.YtagaabooccnamaaGreat.flow
open Go.RowKit num mem rat
section
variable {P:Program} {Q:Exit->Act->World->Prop} {ops:Array Oper} {L:List Oper} {Φ : List Pd} {w0:World} {a0:Act} {i:Nat} {o:Oper}
end
end Go.Proofs.YtagaabooccnamaaGreat.flow
namespace Go.Proofs.YtagaabooccnamaaGreat.rat
open Go.RowKit num mem nat txt str flow whl
theorem IsI.off {w w':World} {v:Value} {l:List Int} {g:Nat} {e:TypeId} {cs:Array Value} (h:IsI w v l) (hB:w.heap[g]?=some (.cells cs e (0,0))) (hno:∀ c∈cs,∀ n,c ≠ .int .i64 n) (hg:w.grownBy w' (some g)):IsI w' v l:=by
 obtain ⟨A,c,rfl,h1,h2,h3,h4⟩:=h;refine ⟨A,c,rfl,h1,h2,h3,fun i z hz => ?_⟩;obtain ⟨ad,rfl,hc⟩:=h4 i z hz;refine ⟨ad,rfl,hg.cell hc fun e1 => ?_⟩;injection e1 with e1
 have hcell:∀ q:Addr,q.block=g->w.cell? q=some (.int .i64 z)->False:=by
  intro p hp hpc;unfold World.cell? at hpc;rw [hp,hB] at hpc;simp only [] at hpc
  split at hpc
  ·cases hpc
  ·exact hno _ (Array.mem_of_getElem? hpc) _ rfl
 exact hcell _ e1 hc
def zI7 (B:Nat) (ps:List Elt):Prop:=∀ p∈ps,zE3 B p.2.1/\zE3 B p.2.2
theorem zI7.nil (B:Nat):zI7 B []:=fun p hp=>by cases hp
theorem zI7.snoc {B:Nat} {ps:List Elt} {p:Elt} (h:zI7 B ps) (h1:zE3 B p.2.1) (h2:zE3 B p.2.2):zI7 B (ps ++ [p]):=fun a ha=>by
 rcases List.mem_append.1 ha with ha | ha
 ·exact h a ha
 ·rw [List.mem_singleton.1 ha];exact ⟨h1,h2⟩
def IsN (k:IntKind) (B:Nat) (w:World) (B0:Nat) (v:Value) (r:List Rat):Prop:=∃ ps:List Elt,ps.map (·.1)=r/\zM8 w v ps/\(∀ p∈ps,IsE k B w p/\zE3 B0 p.2.1/\zE3 B0 p.2.2) /\ ∀ g,v.ownBlock=some g->B0<=g/\g<w.heap.size
theorem IsN.sl {k:IntKind} {B:Nat} {w:World} {B0:Nat} {v:Value} {r:List Rat} (h:IsN k B w B0 v r):SlF k B w v r:=by
 obtain ⟨ps,h1,h2,h3,_⟩:=h;exact ⟨ps,h1,h2,fun p hp=>(h3 p hp).1⟩
theorem IsN.below {k:IntKind} {B:Nat} {w w':World} {B0:Nat} {v:Value} {r:List Rat} (h:IsN k B w B0 v r) (hb:Below w.heap.size w w'):IsN k B w' B0 v r:=by
 obtain ⟨ps,h1,h2,h3,h4⟩:=h;exact ⟨ps,h1,h2.below hb,fun p hp=>⟨(h3 p hp).1.below hb,(h3 p hp).2⟩,fun g hg=>⟨(h4 g hg).1,Nat.lt_of_lt_of_le (h4 g hg).2 hb.size⟩⟩
theorem IsN.mono {k:IntKind} {B:Nat} {w:World} {B0 B1:Nat} {v:Value} {r:List Rat} (h:IsN k B w B0 v r) (hb:B1<=B0):IsN k B w B1 v r:=by
 obtain ⟨ps,h1,h2,h3,h4⟩:=h;exact ⟨ps,h1,h2,fun p hp=>⟨(h3 p hp).1,(h3 p hp).2.1.mono hb,(h3 p hp).2.2.mono hb⟩,fun g hg=>⟨zB5 hb (h4 g hg).1,(h4 g hg).2⟩⟩
def SlT (k:IntKind) (B:Nat) (w:World) (v:Value) (t:List (List Rat)):Prop:=∃ us:List Value,us.length=t.length/\(∃ A c,v=.slice A us.length c/\us.length<=c/\c<=maxLen /\ ∀ (i:Nat) (u:Value),us[i]?=some u -> ∃ ad,A=some ad/\w.cell? (ad.add i)=some u) /\ ∀ (i:Nat) (u:Value) (r:List Rat),us[i]?=some u->t[i]?=some r->SlF k B w u r
theorem SlT.below {k:IntKind} {B:Nat} {w w':World} {v:Value} {t:List (List Rat)} (h:SlT k B w v t) (hb:Below w.heap.size w w'):SlT k B w' v t:=by
 obtain ⟨us,h1,⟨A,c,e,h2,h3,h4⟩,h5⟩:=h;refine ⟨us,h1,⟨A,c,e,h2,h3,fun i u hu => ?_⟩,fun i u r hu hr=>(h5 i u r hu hr).below hb⟩;obtain ⟨ad,ha,hc⟩:=h4 i u hu;exact ⟨ad,ha,(hb.cell (World.block_lt_of_cell? w _ hc)).trans hc⟩
theorem SlT.shape {k:IntKind} {B:Nat} {w:World} {v:Value} {t:List (List Rat)} (h:SlT k B w v t):∃ A c,v=.slice A t.length c/\t.length<=c/\c<=maxLen:=by
 obtain ⟨us,h1,⟨A,c,e,h2,h3,_⟩,_⟩:=h;exact ⟨A,c,by rw [e,h1],by omega,h3⟩
theorem SlT.at_ {k:IntKind} {B:Nat} {w:World} {A:Option Addr} {n c i:Nat} {t:List (List Rat)} {r:List Rat} (h:SlT k B w (.slice A n c) t) (hr:t[i]?=some r):∃ ad Ar cr,A=some ad/\i<n/\w.cell? (ad.add i)=some (.slice Ar r.length cr)/\SlF k B w (.slice Ar r.length cr) r:=by
 obtain ⟨us,h1,⟨A',c',e,h2,h3,h4⟩,h5⟩:=h;injection e with e1 e2 e3;subst e1;subst e2;subst e3;have hi:i<us.length:=by have:=(zA4.1 hr).1;omega
 obtain ⟨ad,ha,hc⟩:=h4 i _ (zA3 hi);have hs:=h5 i _ r (zA3 hi) hr;obtain ⟨Ar,cr,e,_,_⟩:=hs.shape;rw [e] at hc hs;exact ⟨ad,Ar,cr,ha,hi,hc,hs⟩
theorem qG2 (k:IntKind) (B:Nat) (w:World):SlT k B w (.slice none 0 0) []:=⟨[],rfl,⟨none,0,rfl,by simp,by unfold maxLen;omega,fun i u hu=>by simp at hu⟩,fun i u r hu=>by simp at hu⟩
def qG3 (t:List (List Rat)) (n:Int) (w:World) (e:Ending) (w':World):Prop:=∃ V,e=.returned (.tuple #[V,.int .i64 n])/\SlT .u64 4294967296 w' V (if n=0 then t else [])/\Below w.heap.size w w'
def zM2 (k:IntKind) (B:Nat) (w:World) (v u:Value) (r:List Rat):Prop:=∃ ps:List Elt,ps.map (·.1)=r/\zM8 w u ps/\zH0 k B w v ps /\ ∀ g,u.ownBlock=some g->g<w.heap.size/\v.ownBlock≠some g
theorem zM2.sl {k:IntKind} {B:Nat} {w:World} {v u:Value} {r:List Rat} (h:zM2 k B w v u r):SlF k B w u r:=by
 obtain ⟨ps,h1,h2,h3,_⟩:=h;exact ⟨ps,h1,h2,fun p hp=>(h3 p hp).1⟩
theorem zM2.below {k:IntKind} {B:Nat} {w w':World} {v u:Value} {r:List Rat} (h:zM2 k B w v u r) (hb:Below w.heap.size w w'):zM2 k B w' v u r:=by
 obtain ⟨ps,h1,h2,h3,h4⟩:=h;exact ⟨ps,h1,h2.below hb,h3.below hb,fun g hg=>⟨Nat.lt_of_lt_of_le (h4 g hg).1 hb.size,(h4 g hg).2⟩⟩
theorem zM2.keep {k:IntKind} {B:Nat} {w w':World} {v v' u:Value} {r:List Rat} (h:zM2 k B w v u r) (hk:zH5 w w' v v'):zM2 k B w' v' u r:=by
 obtain ⟨ps,h1,⟨A,c,e,h2,h2',h2''⟩,h3,h4⟩:=h;obtain ⟨k1,k2,k3⟩:=hk;refine ⟨ps,h1,⟨A,c,e,h2,h2',fun i p hp => ?_⟩,h3.keep k1,fun g hg=>⟨Nat.lt_of_lt_of_le (h4 g hg).1 k2.size,k3 g (h4 g hg).1 (h4 g hg).2⟩⟩;obtain ⟨g,o,rfl,c0,c1,c2⟩:=h2'' i p hp;have hne:some g≠v.ownBlock:=fun e'=>(h4 g (by rw [e];rfl)).2 e'.symm;exact ⟨g,o,rfl,k2.cell c0 hne,k2.cell c1 hne,k2.cell c2 hne⟩
theorem IsN.far {k:IntKind} {B:Nat} {w:World} {B0:Nat} {v u:Value} {r:List Rat} (h:IsN k B w B0 u r) (hv:∀ g,v.ownBlock=some g->g<B0):zM2 k B w v u r:=by
 obtain ⟨ps,h1,h2,h3,h4⟩:=h;exact ⟨ps,h1,h2,fun p hp=>⟨(h3 p hp).1,(h3 p hp).2.1.far hv,(h3 p hp).2.2.far hv⟩,fun g hg=>⟨(h4 g hg).2,fun e=>by have h5:=hv _ e;have h6:=(h4 g hg).1;omega⟩⟩
def qB9 (k:IntKind) (B:Nat) (w:World) (v:Value) (us:List Value) (t:List (List Rat)):Prop:=us.length=t.length /\ ∀ (i:Nat) (u:Value) (r:List Rat),us[i]?=some u->t[i]?=some r->zM2 k B w v u r
theorem qB9.below {k:IntKind} {B:Nat} {w w':World} {v:Value} {us:List Value} {t:List (List Rat)} (h:qB9 k B w v us t) (hb:Below w.heap.size w w'):qB9 k B w' v us t:=⟨h.1,fun i u r hu hr=>(h.2 i u r hu hr).below hb⟩
theorem qB9.keep {k:IntKind} {B:Nat} {w w':World} {v v':Value} {us:List Value} {t:List (List Rat)} (h:qB9 k B w v us t) (hk:zH5 w w' v v'):qB9 k B w' v' us t:=⟨h.1,fun i u r hu hr=>(h.2 i u r hu hr).keep hk⟩
end Go.Proofs.YtagaabooccnamaaGreat.rat
namespace Go.Proofs.YtagaabooccnamaaGreat.flow
open Go.RowKit num mem whl rat
section
variable {P:Program} {Q:Exit->Act->World->Prop} {ops:Array Oper} {L:List Oper} {Φ : List Pd} {w0:World} {a0:Act} {i:Nat} {o:Oper}
end
end Go.Proofs.YtagaabooccnamaaGreat.flow
namespace Go.Proofs.YtagaabooccnamaaGreat.rat
open Go.RowKit num mem nat txt str flow whl
theorem inv8_ok (a0:Value) (x:Rat) (w:World) (h0:IsQ w a0 x) (hl:zC6 x 1000000) (hy:x≠0) :
  Calls prog 128 #[a0] w (zU1 x⁻¹ 0 w):=by
 rcases Int.lt_or_gt_of_ne (fun e=>hy (Rat.num_eq_zero.1 e):x.num≠0) with hlt | hlt
 ·obtain ⟨u0,t0,rfl,s0,r0⟩:=h0;obtain ⟨A0,c0,rfl,_⟩:=id s0;obtain ⟨D0,e0,rfl,_⟩:=id r0;obtain ⟨Q,hQ⟩:∃ Q,Q=x⁻¹:=⟨_,rfl⟩;have HQ0:Hid (x⁻¹ = Q):=hQ.symm;have HQN:Hid (Q.num=sg (ngB x.num) x.den):=by show _=_;rw [hQ,(zV6 hy).1]
  have HQD:Hid (x.num.natAbs=Q.den):=by show _=_;rw [hQ,(zV6 hy).2]
  have HS:Hid (((-1):Int)=zK5 x.num 0):=(qE3 hlt).symm;clear hQ
  go_enter func128,ntmps128
  go_upto_region 1 with (fail)
  obtain ⟨wx,hwx,bb,B0,BR0,hsz⟩:=zH4 w 83 83 #[.bool (ngB (x).num),.slice A0 (digs 4294967296 (x).num.natAbs).length c0,.slice D0 (digs 4294967296 (x).den).length e0] #[.bool false,.slice none 0 0,.slice none 0 0];rw [hwx];clear hwx;have k0s:=s0.below bb;have k0d:=r0.below bb;have k0z:IsZ wx (.agg #[.bool (ngB (x).num),.slice A0 (digs 4294967296 (x).num.natAbs).length c0]) (x).num:=⟨_,rfl,k0s⟩;have k0:IsQ wx (.agg #[.bool (ngB (x).num),.slice A0 (digs 4294967296 (x).num.natAbs).length c0,.slice D0 (digs 4294967296 (x).den).length e0]) (x):=⟨_,_,rfl,k0s,k0d⟩;have hsz0:=bb.size;have sB:=bb.size;refine zC9 3 [Pd.eq (.agg #[.bool (ngB (x).num),.slice A0 (digs 4294967296 (x).num.natAbs).length c0,.slice D0 (digs 4294967296 (x).den).length e0]),Pd.eq (.int .i64 (-1)),Pd.eq (.bool false)] (by kernel_rfl) ?ob24 ?done24
  case ob24 =>
   refine zA (zC rfl (zB7 rfl) (zB9 rfl rfl) (fun w2 hb=>zF7 underlying83 rfl (by kernel_rfl) (B0.below hb)) (fun _ _=>rfl)) ?_;refine zA (zF6 rfl func133 (by kernel_rfl) (zB7 rfl) (zB8 (j:=0) (by kernel_rfl) rfl rfl) (fun w2 u0 hb h0=>by obtain rfl:=h0;exact (zU2 _ x (-1) _ (k0.below hb) HS.out).mono fun e w3 h=>zD5.pd h)) ?_;refine zA (zE8 rfl (zB7 rfl) (zB8 (j:=1) (by kernel_rfl) rfl rfl) (zG2 _) (fun _ _ _ hx hy=>⟨.bool ((-1:Int) == 0),by rw [hx,hy];exact zN3 _ _ _ _ _,congrArg Value.bool (by decide)⟩)) ?_
   trivial
  case done24 =>
   refine fun w1 hb1 v0 h0 v1 h1 v2 h2 b hbf => ?_;obtain rfl:=h0;obtain rfl:=h1;obtain rfl:=h2;simp only [Act.put,zA0,zA2,zA1] at hbf;subst hbf;replace B0:=B0.below hb1;replace k0s:=k0s.below hb1;replace k0d:=k0d.below hb1;replace k0z:=k0z.below hb1;replace k0:=k0.below hb1;replace BR0:=BR0.below hb1;replace bb:=bb.trans (hb1.mono bb.size);have hsz1:=bb.size;refine zD ?_;have sB:=bb.size;go_upto_region 3 with (fail);refine flow 11 [Pd.eq (.pointer (some ⟨w.heap.size,0,none⟩)),Pd.eq (.pointer (some ⟨w.heap.size,0,none⟩)),Pd.eq (.bool (ngB (x).num)),Pd.eq (.pointer (some ⟨w.heap.size,2,none⟩)),Pd.eq (.slice D0 (digs 4294967296 (x).den).length e0),pz ((Q).num) w1.heap.size,Pd.eq (.pointer (some ⟨w.heap.size,0,none⟩)),Pd.eq (.pointer (some ⟨w.heap.size,1,none⟩)),Pd.eq (.slice A0 (digs 4294967296 (x).num.natAbs).length c0),ps .u64 (digs 4294967296 (Q).den) w1.heap.size,pq (Q) w1.heap.size] (by kernel_rfl) (by kernel_rfl) ?ob25 ?done25
   case ob25 =>
    refine zA (zC1 rfl (zB7 rfl) (zB9 rfl rfl) (fun _=>by kernel_rfl) (fun _=>rfl)) ?_;refine zA (zC1 rfl (zB7 rfl) (zB8 (j:=0) (by kernel_rfl) rfl rfl) (fun _=>by kernel_rfl) (fun _=>rfl)) ?_;refine zA (zC rfl (zB7 rfl) (zB8 (j:=1) (by kernel_rfl) rfl rfl) (fun w2 hb=>zC3 underlying4 rfl ((B0.drew.below hb).cell 0)) (fun _ _=>rfl)) ?_;refine zA (zC1 rfl (zB7 rfl) (zB9 rfl rfl) (fun _=>by kernel_rfl) (fun _=>rfl)) ?_;refine zA (zC rfl (zB7 rfl) (zB8 (j:=3) (by kernel_rfl) rfl rfl) (fun w2 hb=>zC3 underlying50 rfl ((B0.drew.below hb).cell 2)) (fun _ _=>rfl)) ?_;refine zA (zD0 rfl func57 (by kernel_rfl) (zB7 rfl) (zB8 (j:=2) (by kernel_rfl) rfl rfl) (zB8 (j:=4) (by kernel_rfl) rfl rfl) (fun w2 u0 u1 hb h0 h1=>by obtain rfl:=h0;obtain rfl:=h1;exact (made_any _ _ x.den (Q).num _ (k0d.drew.below hb) (zB5 hl.2 (by decide)) HQN.out).mono fun e w3 h=>zF.pd h hb.size)) ?_;refine zA (zC1 rfl (zB7 rfl) (zB9 rfl rfl) (fun _=>by kernel_rfl) (fun _=>rfl)) ?_;refine zA (zC1 rfl (zB7 rfl) (zB8 (j:=6) (by kernel_rfl) rfl rfl) (fun _=>by kernel_rfl) (fun _=>rfl)) ?_;refine zA (zC rfl (zB7 rfl) (zB8 (j:=7) (by kernel_rfl) rfl rfl) (fun w2 hb=>zC3 underlying50 rfl ((B0.drew.below hb).cell 1)) (fun _ _=>rfl)) ?_;refine zA (zF6 rfl func106 (by kernel_rfl) (zB7 rfl) (zB8 (j:=8) (by kernel_rfl) rfl rfl) (fun w2 u0 hb h0=>by obtain rfl:=h0;exact (zV _ _ _ (k0s.drew.below hb) (zB5 hl.1 (by decide))).mono fun e w3 h=>zD7.pd (zD7.to h (congrArg (digs 4294967296) HQD.out)) hb.size)) ?_;refine zA (zL rfl (zB7 rfl) (zB8 (j:=5) (by kernel_rfl) rfl rfl) (zB8 (j:=9) (by kernel_rfl) rfl rfl) (fun w2 u v hb hu hv=>by obtain ⟨u7,rfl,hu7⟩:=hu.1;obtain ⟨A7,c7,rfl,_⟩:=id hu7;obtain ⟨A8,c8,rfl,_⟩:=id hv.1;exact ⟨.agg #[.bool (ngB (Q).num),.slice A7 (digs 4294967296 (Q).num.natAbs).length c7,.slice A8 (digs 4294967296 (Q).den).length c8],by kernel_rfl,⟨⟨_,_,rfl,hu7,hv.1⟩,zM1 (hu.2 _ _ rfl) hv.2⟩⟩)) ?_
    trivial
   case done25 =>
    refine fun w2 hb2 v0 h0 v1 h1 v2 h2 v3 h3 v4 h4 v5 h5 v6 h6 v7 h7 v8 h8 v9 h9 v10 h10 b hbf => ?_;obtain rfl:=h0;obtain rfl:=h1;obtain rfl:=h2;obtain rfl:=h3;obtain rfl:=h4;obtain rfl:=h6;obtain rfl:=h7;obtain rfl:=h8;obtain ⟨q5,f5⟩:=h5;obtain ⟨q9,f9⟩:=h9;obtain ⟨q10,f10⟩:=h10;simp only [Act.put,zA0,zA2,zA1] at hbf;subst hbf;replace B0:=B0.below hb2;replace k0s:=k0s.below hb2;replace k0d:=k0d.below hb2;replace k0z:=k0z.below hb2;replace k0:=k0.below hb2;replace BR0:=BR0.below hb2;replace bb:=bb.trans (hb2.mono bb.size);have hsz2:=bb.size;have s_5:=sB;have s_9:=sB;have s_10:=sB;obtain ⟨u10,t10,rfl,q10,d10⟩:=q10;obtain ⟨A9,c9,rfl,_⟩:=id q10;obtain ⟨D9,e9,rfl,_⟩:=id d10;have fS:=(f10 _ _ _ rfl).1.mono s_10;have fT:=(f10 _ _ _ rfl).2.mono s_10;refine zI (i:=11) (by kernel_rfl) rfl rfl rfl rfl rfl rfl (cells:=[.bool (ngB (Q).num),.slice A9 (digs 4294967296 (Q).num.natAbs).length c9,.slice D9 (digs 4294967296 (Q).den).length e9]) rfl BR0 rfl (by kernel_rfl) (zI6 rfl rfl rfl) fun w9 hg9 B9 => ?_;have k9:=off q10 BR0 zE0 hg9;have d9:=off d10 BR0 zE0 hg9;have bb9:=bb.trans ((Below.refl _ _).grown hg9 bb.size (fun g hg=>by injection hg with hg;omega));obtain ⟨C0,C1,C2,_,_,_⟩:=three B9;refine qE0 (i:=12) (.int .i64 0) (by kernel_rfl) rfl rfl rfl rfl rfl fun b hbf => ?_;simp only [Act.put,zA0,zA2,zA1] at hbf;subst hbf;refine zF8 (by kernel_rfl) ?_;go_wp2;rw [HQ0.out];exact bodyPost_ret (v:=.tuple #[.agg #[.bool (ngB (Q).num),.slice A9 (digs 4294967296 (Q).num.natAbs).length c9,.slice D9 (digs 4294967296 (Q).den).length e9],.int .i64 0]) (by simp [results,results128,go_sem,C0,C1,C2]) rfl ⟨_,rfl,zV8 k9 d9 rfl rfl rfl,zM1 fS fT,bb9⟩
 ·obtain ⟨u0,t0,rfl,s0,r0⟩:=h0;obtain ⟨A0,c0,rfl,_⟩:=id s0;obtain ⟨D0,e0,rfl,_⟩:=id r0;obtain ⟨Q,hQ⟩:∃ Q,Q=x⁻¹:=⟨_,rfl⟩;have HQ0:Hid (x⁻¹ = Q):=hQ.symm;have HQN:Hid (Q.num=sg (ngB x.num) x.den):=by show _=_;rw [hQ,(zV6 hy).1]
  have HQD:Hid (x.num.natAbs=Q.den):=by show _=_;rw [hQ,(zV6 hy).2]
  have HS:Hid ((1:Int)=zK5 x.num 0):=(qE4 hlt).symm;clear hQ
  go_enter func128,ntmps128
  go_upto_region 1 with (fail)
  obtain ⟨wx,hwx,bb,B0,BR0,hsz⟩:=zH4 w 83 83 #[.bool (ngB (x).num),.slice A0 (digs 4294967296 (x).num.natAbs).length c0,.slice D0 (digs 4294967296 (x).den).length e0] #[.bool false,.slice none 0 0,.slice none 0 0];rw [hwx];clear hwx;have k0s:=s0.below bb;have k0d:=r0.below bb;have k0z:IsZ wx (.agg #[.bool (ngB (x).num),.slice A0 (digs 4294967296 (x).num.natAbs).length c0]) (x).num:=⟨_,rfl,k0s⟩;have k0:IsQ wx (.agg #[.bool (ngB (x).num),.slice A0 (digs 4294967296 (x).num.natAbs).length c0,.slice D0 (digs 4294967296 (x).den).length e0]) (x):=⟨_,_,rfl,k0s,k0d⟩;have hsz0:=bb.size;have sB:=bb.size;refine zC9 3 [Pd.eq (.agg #[.bool (ngB (x).num),.slice A0 (digs 4294967296 (x).num.natAbs).length c0,.slice D0 (digs 4294967296 (x).den).length e0]),Pd.eq (.int .i64 1),Pd.eq (.bool false)] (by kernel_rfl) ?ob26 ?done26
  case ob26 =>
   refine zA (zC rfl (zB7 rfl) (zB9 rfl rfl) (fun w2 hb=>zF7 underlying83 rfl (by kernel_rfl) (B0.below hb)) (fun _ _=>rfl)) ?_;refine zA (zF6 rfl func133 (by kernel_rfl) (zB7 rfl) (zB8 (j:=0) (by kernel_rfl) rfl rfl) (fun w2 u0 hb h0=>by obtain rfl:=h0;exact (zU2 _ x 1 _ (k0.below hb) HS.out).mono fun e w3 h=>zD5.pd h)) ?_;refine zA (zE8 rfl (zB7 rfl) (zB8 (j:=1) (by kernel_rfl) rfl rfl) (zG2 _) (fun _ _ _ hx hy=>⟨.bool ((1:Int) == 0),by rw [hx,hy];exact zN3 _ _ _ _ _,congrArg Value.bool (by decide)⟩)) ?_
   trivial
  case done26 =>
   refine fun w1 hb1 v0 h0 v1 h1 v2 h2 b hbf => ?_;obtain rfl:=h0;obtain rfl:=h1;obtain rfl:=h2;simp only [Act.put,zA0,zA2,zA1] at hbf;subst hbf;replace B0:=B0.below hb1;replace k0s:=k0s.below hb1;replace k0d:=k0d.below hb1;replace k0z:=k0z.below hb1;replace k0:=k0.below hb1;replace BR0:=BR0.below hb1;replace bb:=bb.trans (hb1.mono bb.size);have hsz1:=bb.size;refine zD ?_;have sB:=bb.size;go_upto_region 3 with (fail);refine flow 11 [Pd.eq (.pointer (some ⟨w.heap.size,0,none⟩)),Pd.eq (.pointer (some ⟨w.heap.size,0,none⟩)),Pd.eq (.bool (ngB (x).num)),Pd.eq (.pointer (some ⟨w.heap.size,2,none⟩)),Pd.eq (.slice D0 (digs 4294967296 (x).den).length e0),pz ((Q).num) w1.heap.size,Pd.eq (.pointer (some ⟨w.heap.size,0,none⟩)),Pd.eq (.pointer (some ⟨w.heap.size,1,none⟩)),Pd.eq (.slice A0 (digs 4294967296 (x).num.natAbs).length c0),ps .u64 (digs 4294967296 (Q).den) w1.heap.size,pq (Q) w1.heap.size] (by kernel_rfl) (by kernel_rfl) ?ob27 ?done27
   case ob27 =>
    refine zA (zC1 rfl (zB7 rfl) (zB9 rfl rfl) (fun _=>by kernel_rfl) (fun _=>rfl)) ?_;refine zA (zC1 rfl (zB7 rfl) (zB8 (j:=0) (by kernel_rfl) rfl rfl) (fun _=>by kernel_rfl) (fun _=>rfl)) ?_;refine zA (zC rfl (zB7 rfl) (zB8 (j:=1) (by kernel_rfl) rfl rfl) (fun w2 hb=>zC3 underlying4 rfl ((B0.drew.below hb).cell 0)) (fun _ _=>rfl)) ?_;refine zA (zC1 rfl (zB7 rfl) (zB9 rfl rfl) (fun _=>by kernel_rfl) (fun _=>rfl)) ?_;refine zA (zC rfl (zB7 rfl) (zB8 (j:=3) (by kernel_rfl) rfl rfl) (fun w2 hb=>zC3 underlying50 rfl ((B0.drew.below hb).cell 2)) (fun _ _=>rfl)) ?_;refine zA (zD0 rfl func57 (by kernel_rfl) (zB7 rfl) (zB8 (j:=2) (by kernel_rfl) rfl rfl) (zB8 (j:=4) (by kernel_rfl) rfl rfl) (fun w2 u0 u1 hb h0 h1=>by obtain rfl:=h0;obtain rfl:=h1;exact (made_any _ _ x.den (Q).num _ (k0d.drew.below hb) (zB5 hl.2 (by decide)) HQN.out).mono fun e w3 h=>zF.pd h hb.size)) ?_;refine zA (zC1 rfl (zB7 rfl) (zB9 rfl rfl) (fun _=>by kernel_rfl) (fun _=>rfl)) ?_;refine zA (zC1 rfl (zB7 rfl) (zB8 (j:=6) (by kernel_rfl) rfl rfl) (fun _=>by kernel_rfl) (fun _=>rfl)) ?_;refine zA (zC rfl (zB7 rfl) (zB8 (j:=7) (by kernel_rfl) rfl rfl) (fun w2 hb=>zC3 underlying50 rfl ((B0.drew.below hb).cell 1)) (fun _ _=>rfl)) ?_;refine zA (zF6 rfl func106 (by kernel_rfl) (zB7 rfl) (zB8 (j:=8) (by kernel_rfl) rfl rfl) (fun w2 u0 hb h0=>by obtain rfl:=h0;exact (zV _ _ _ (k0s.drew.below hb) (zB5 hl.1 (by decide))).mono fun e w3 h=>zD7.pd (zD7.to h (congrArg (digs 4294967296) HQD.out)) hb.size)) ?_;refine zA (zL rfl (zB7 rfl) (zB8 (j:=5) (by kernel_rfl) rfl rfl) (zB8 (j:=9) (by kernel_rfl) rfl rfl) (fun w2 u v hb hu hv=>by obtain ⟨u7,rfl,hu7⟩:=hu.1;obtain ⟨A7,c7,rfl,_⟩:=id hu7;obtain ⟨A8,c8,rfl,_⟩:=id hv.1;exact ⟨.agg #[.bool (ngB (Q).num),.slice A7 (digs 4294967296 (Q).num.natAbs).length c7,.slice A8 (digs 4294967296 (Q).den).length c8],by kernel_rfl,⟨⟨_,_,rfl,hu7,hv.1⟩,zM1 (hu.2 _ _ rfl) hv.2⟩⟩)) ?_
    trivial
   case done27 =>
    refine fun w2 hb2 v0 h0 v1 h1 v2 h2 v3 h3 v4 h4 v5 h5 v6 h6 v7 h7 v8 h8 v9 h9 v10 h10 b hbf => ?_;obtain rfl:=h0;obtain rfl:=h1;obtain rfl:=h2;obtain rfl:=h3;obtain rfl:=h4;obtain rfl:=h6;obtain rfl:=h7;obtain rfl:=h8;obtain ⟨q5,f5⟩:=h5;obtain ⟨q9,f9⟩:=h9;obtain ⟨q10,f10⟩:=h10;simp only [Act.put,zA0,zA2,zA1] at hbf;subst hbf;replace B0:=B0.below hb2;replace k0s:=k0s.below hb2;replace k0d:=k0d.below hb2;replace k0z:=k0z.below hb2;replace k0:=k0.below hb2;replace BR0:=BR0.below hb2;replace bb:=bb.trans (hb2.mono bb.size);have hsz2:=bb.size;have s_5:=sB;have s_9:=sB;have s_10:=sB;obtain ⟨u10,t10,rfl,q10,d10⟩:=q10;obtain ⟨A9,c9,rfl,_⟩:=id q10;obtain ⟨D9,e9,rfl,_⟩:=id d10;have fS:=(f10 _ _ _ rfl).1.mono s_10;have fT:=(f10 _ _ _ rfl).2.mono s_10;refine zI (i:=11) (by kernel_rfl) rfl rfl rfl rfl rfl rfl (cells:=[.bool (ngB (Q).num),.slice A9 (digs 4294967296 (Q).num.natAbs).length c9,.slice D9 (digs 4294967296 (Q).den).length e9]) rfl BR0 rfl (by kernel_rfl) (zI6 rfl rfl rfl) fun w9 hg9 B9 => ?_;have k9:=off q10 BR0 zE0 hg9;have d9:=off d10 BR0 zE0 hg9;have bb9:=bb.trans ((Below.refl _ _).grown hg9 bb.size (fun g hg=>by injection hg with hg;omega));obtain ⟨C0,C1,C2,_,_,_⟩:=three B9;refine qE0 (i:=12) (.int .i64 0) (by kernel_rfl) rfl rfl rfl rfl rfl fun b hbf => ?_;simp only [Act.put,zA0,zA2,zA1] at hbf;subst hbf;refine zF8 (by kernel_rfl) ?_;go_wp2;rw [HQ0.out];exact bodyPost_ret (v:=.tuple #[.agg #[.bool (ngB (Q).num),.slice A9 (digs 4294967296 (Q).num.natAbs).length c9,.slice D9 (digs 4294967296 (Q).den).length e9],.int .i64 0]) (by simp [results,results128,go_sem,C0,C1,C2]) rfl ⟨_,rfl,zV8 k9 d9 rfl rfl rfl,zM1 fS fT,bb9⟩
theorem qT (a0:Value) (x:Rat) (a1:Value) (y:Rat) (w:World) (h0:IsQ w a0 x) (h1:IsQ w a1 y) (hl:zC6 x 10000) (hl2:zC6 y 10000) :
  Calls prog 127 #[a0,a1] w (RetQ (x*y) w):=by
 obtain ⟨u0,t0,rfl,s0,r0⟩:=h0;obtain ⟨A0,c0,rfl,_⟩:=id s0;obtain ⟨D0,e0,rfl,_⟩:=id r0;obtain ⟨u1,t1,rfl,s1,r1⟩:=h1;obtain ⟨A1,c1,rfl,_⟩:=id s1;obtain ⟨D1,e1,rfl,_⟩:=id r1;obtain ⟨U,hU⟩:∃ U,U=(mkRat x.num y.den).num:=⟨_,rfl⟩;obtain ⟨L,hL⟩:∃ L,L=(mkRat x.num y.den).den:=⟨_,rfl⟩;obtain ⟨V,hV⟩:∃ V,V=(mkRat y.num x.den).num:=⟨_,rfl⟩;obtain ⟨M,hM⟩:∃ M,M=(mkRat y.num x.den).den:=⟨_,rfl⟩;obtain ⟨Q,hQ⟩:∃ Q,Q=x*y:=⟨_,rfl⟩;have HQ0:Hid (x*y=Q):=hQ.symm;have HP:=yX2 x y;rw [<- hU,<- hL,<- hV,<- hM,<- hQ] at HP;have HQN:Hid (U*V=(Q).num):=HP.1.symm;have HQD:Hid (M*L=(Q).den):=HP.2.symm;have lx1:=hl.1;have lx2:=hl.2;have ly1:=hl2.1;have ly2:=hl2.2;have HX:Hid (x.den≠0):=x.den_nz;have HY:Hid (y.den≠0):=y.den_nz;have lU:zC6 (mkRat x.num y.den) 10000:=zS0 HY.out lx1 ly2;have lV:zC6 (mkRat y.num x.den) 10000:=zS0 HX.out ly1 lx2;unfold zC6 at lU lV;rw [<- hU,<- hL] at lU;rw [<- hV,<- hM] at lV;have HU:=hQ9 hU;have HL:=hQ9 hL;have HV:=hQ9 hV;have HM:=hQ9 hM;clear hU hL hV hM hQ HP
 go_enter func127,ntmps127
 go_upto_region 1 with (fail)
 obtain ⟨wx,hwx,bb,B0,B1,BR0,hsz⟩:=zK6 w 83 83 83 #[.bool (ngB (x).num),.slice A0 (digs 4294967296 (x).num.natAbs).length c0,.slice D0 (digs 4294967296 (x).den).length e0] #[.bool (ngB (y).num),.slice A1 (digs 4294967296 (y).num.natAbs).length c1,.slice D1 (digs 4294967296 (y).den).length e1] #[.bool false,.slice none 0 0,.slice none 0 0];rw [hwx];clear hwx;have k0s:=s0.below bb;have k0d:=r0.below bb;have k0z:IsZ wx (.agg #[.bool (ngB (x).num),.slice A0 (digs 4294967296 (x).num.natAbs).length c0]) (x).num:=⟨_,rfl,k0s⟩;have k0:IsQ wx (.agg #[.bool (ngB (x).num),.slice A0 (digs 4294967296 (x).num.natAbs).length c0,.slice D0 (digs 4294967296 (x).den).length e0]) (x):=⟨_,_,rfl,k0s,k0d⟩;have k1s:=s1.below bb;have k1d:=r1.below bb;have k1z:IsZ wx (.agg #[.bool (ngB (y).num),.slice A1 (digs 4294967296 (y).num.natAbs).length c1]) (y).num:=⟨_,rfl,k1s⟩;have k1:IsQ wx (.agg #[.bool (ngB (y).num),.slice A1 (digs 4294967296 (y).num.natAbs).length c1,.slice D1 (digs 4294967296 (y).den).length e1]) (y):=⟨_,_,rfl,k1s,k1d⟩;have hsz0:=bb.size;have sB:=bb.size;have lt0_2:=Blk.lt B0;have lt0_3:=Blk.lt B1;have lt0_4:=Blk.lt BR0;refine zC9 9 [Pd.eq (.pointer (some ⟨w.heap.size,0,none⟩)),Pd.eq (.agg #[.bool (ngB (x).num),.slice A0 (digs 4294967296 (x).num.natAbs).length c0]),Pd.eq (.pointer (some ⟨w.heap.size+1,2,none⟩)),Pd.eq (.slice D1 (digs 4294967296 (y).den).length e1),pzs (U) (L) wx.heap.size,pzs (U) (L) wx.heap.size,pz (U) wx.heap.size,ps .u64 (digs 4294967296 L) wx.heap.size,pn 60 #[.bool false,.slice none 0 0] wx.heap.size] (by kernel_rfl) ?ob28 ?done28
 case ob28 =>
  refine zA (zC1 rfl (zB7 rfl) (zB9 rfl rfl) (fun _=>by kernel_rfl) (fun _=>rfl)) ?_;refine zA (zC rfl (zB7 rfl) (zB8 (j:=0) (by kernel_rfl) rfl rfl) (fun w2 hb=>zM7 underlying60 rfl (by kernel_rfl) (B0.below hb) rfl) (fun _ _=>rfl)) ?_;refine zA (zC1 rfl (zB7 rfl) (zB9 rfl rfl) (fun _=>by kernel_rfl) (fun _=>rfl)) ?_;refine zA (zC rfl (zB7 rfl) (zB8 (j:=2) (by kernel_rfl) rfl rfl) (fun w2 hb=>zC3 underlying50 rfl ((B1.below hb).cell 2)) (fun _ _=>rfl)) ?_;refine zA (zD0 rfl func120 (by kernel_rfl) (zB7 rfl) (zB8 (j:=1) (by kernel_rfl) rfl rfl) (zB8 (j:=3) (by kernel_rfl) rfl rfl) (fun w2 u0 u1 hb h0 h1=>by obtain rfl:=h0;obtain rfl:=h1;exact (qF7 _ x.num _ y.den U L _ (k0z.below hb) (k1d.below hb) HY.out (zB5 lx1 (by decide)) (zB5 ly2 (by decide)) HU.out HL.out).mono fun e w3 h=>zW.pd h hb.size)) ?_;refine zA (zC2 rfl (zB7 rfl) (zB8 (j:=4) (by kernel_rfl) rfl rfl) (fun _ _ h=>h)) ?_;refine zA (zI2 rfl (zB7 rfl) (zB8 (j:=5) (by kernel_rfl) rfl rfl) (fun w2 u hu=>by obtain ⟨v,u,rfl,q1,q2,q3,q4⟩:=hu;exact ⟨v,rfl,q1,q3⟩)) ?_;refine zA (zI2 rfl (zB7 rfl) (zB8 (j:=5) (by kernel_rfl) rfl rfl) (fun w2 u hu=>by obtain ⟨v,u,rfl,q1,q2,q3,q4⟩:=hu;exact ⟨u,rfl,q2,q4⟩)) ?_;refine zA (zN2 (z:=.agg #[.bool false,.slice none 0 0]) rfl rfl (fun _=>by kernel_rfl) (fun _ _ hB h=>⟨_,rfl,hB,h⟩)) ?_
  trivial
 case done28 =>
  refine fun w1 hb1 v0 h0 v1 h1 v2 h2 v3 h3 v4 h4 v5 h5 v6 h6 v7 h7 v8 h8 d8 b hbf => ?_;obtain rfl:=h0;obtain rfl:=h1;obtain rfl:=h2;obtain rfl:=h3;clear h4;clear h5;obtain ⟨q6,f6⟩:=h6;obtain ⟨q7,f7⟩:=h7;obtain ⟨g28_8,rfl,hg8,B8⟩:=h8;simp only [Act.put,zA0,zA2,zA1] at hbf;subst hbf;replace B0:=B0.below hb1;replace k0s:=k0s.below hb1;replace k0d:=k0d.below hb1;replace k0z:=k0z.below hb1;replace k0:=k0.below hb1;replace B1:=B1.below hb1;replace k1s:=k1s.below hb1;replace k1d:=k1d.below hb1;replace k1z:=k1z.below hb1;replace k1:=k1.below hb1;replace BR0:=BR0.below hb1;replace bb:=bb.trans (hb1.mono bb.size);have hsz1:=bb.size;have s_6:=sB;have s_7:=sB;obtain ⟨A16,c16,rfl,_⟩:=id q7;have n16:=q7;have n16f:=f7;have n16z_:=s_7;have BA5:=B8;obtain ⟨u6,rfl,q6⟩:=q6;obtain ⟨A5,c5,rfl,_⟩:=id q6;refine zI5 (i:=9) rfl rfl rfl rfl rfl rfl (cells:=[.bool (ngB U),.slice A5 (digs 4294967296 (U).natAbs).length c5]) rfl BA5 rfl (by kernel_rfl) (zG6 rfl rfl) fun w2 hg2 BN2 => ?_;replace q6:=off q6 BA5 no_ints2 hg2;replace n16:=off n16 BA5 no_ints2 hg2;replace k0s:=off k0s BA5 no_ints2 hg2;replace k0d:=off k0d BA5 no_ints2 hg2;replace k0z:IsZ w2 (.agg #[.bool (ngB (x).num),.slice A0 (digs 4294967296 (x).num.natAbs).length c0]) ((x).num):=⟨_,rfl,k0s⟩;replace k0:IsQ w2 (.agg #[.bool (ngB (x).num),.slice A0 (digs 4294967296 (x).num.natAbs).length c0,.slice D0 (digs 4294967296 (x).den).length e0]) (x):=⟨_,_,rfl,k0s,k0d⟩;replace B0:=B0.grown hg2 (by omega);replace k1s:=off k1s BA5 no_ints2 hg2;replace k1d:=off k1d BA5 no_ints2 hg2;replace k1z:IsZ w2 (.agg #[.bool (ngB (y).num),.slice A1 (digs 4294967296 (y).num.natAbs).length c1]) ((y).num):=⟨_,rfl,k1s⟩;replace k1:IsQ w2 (.agg #[.bool (ngB (y).num),.slice A1 (digs 4294967296 (y).num.natAbs).length c1,.slice D1 (digs 4294967296 (y).den).length e1]) (y):=⟨_,_,rfl,k1s,k1d⟩;replace B1:=B1.grown hg2 (by omega);replace BR0:=BR0.grown hg2 (by omega);replace bb:=bb.trans ((Below.refl _ _).grown hg2 bb.size (fun g hg=>by injection hg with hg;omega));have hsz2:=bb.size;have B5:Blk w2 (g28_8) _ _:=BN2;have k5s:=q6;have k5:IsZ w2 (.agg #[.bool (ngB U),.slice A5 (digs 4294967296 (U).natAbs).length c5]) (U):=⟨_,rfl,k5s⟩;refine zQ9 (i:=10) (.slice A16 (digs 4294967296 L).length c16) rfl rfl rfl rfl rfl fun b hbf => ?_;simp only [Act.put,zA0,zA2,zA1] at hbf;subst hbf;refine zD ?_;have f5_:=(f6 _ _ rfl).mono s_6;have sB:=bb.size;go_upto_region 2 with (fail);have lt2_2:=Blk.lt B0;have lt2_3:=Blk.lt B1;have lt2_4:=Blk.lt BR0;have lt2_5:=Blk.lt B5;refine zC9 9 [Pd.eq (.pointer (some ⟨w.heap.size+1,0,none⟩)),Pd.eq (.agg #[.bool (ngB (y).num),.slice A1 (digs 4294967296 (y).num.natAbs).length c1]),Pd.eq (.pointer (some ⟨w.heap.size,2,none⟩)),Pd.eq (.slice D0 (digs 4294967296 (x).den).length e0),pzs (V) (M) w2.heap.size,pzs (V) (M) w2.heap.size,pz (V) w2.heap.size,ps .u64 (digs 4294967296 M) w2.heap.size,pn 60 #[.bool false,.slice none 0 0] w2.heap.size] (by kernel_rfl) ?ob29 ?done29
  case ob29 =>
   refine zA (zC1 rfl (zB7 rfl) (zB9 rfl rfl) (fun _=>by kernel_rfl) (fun _=>rfl)) ?_;refine zA (zC rfl (zB7 rfl) (zB8 (j:=0) (by kernel_rfl) rfl rfl) (fun w2 hb=>zM7 underlying60 rfl (by kernel_rfl) (B1.below hb) rfl) (fun _ _=>rfl)) ?_;refine zA (zC1 rfl (zB7 rfl) (zB9 rfl rfl) (fun _=>by kernel_rfl) (fun _=>rfl)) ?_;refine zA (zC rfl (zB7 rfl) (zB8 (j:=2) (by kernel_rfl) rfl rfl) (fun w2 hb=>zC3 underlying50 rfl ((B0.below hb).cell 2)) (fun _ _=>rfl)) ?_;refine zA (zD0 rfl func120 (by kernel_rfl) (zB7 rfl) (zB8 (j:=1) (by kernel_rfl) rfl rfl) (zB8 (j:=3) (by kernel_rfl) rfl rfl) (fun w2 u0 u1 hb h0 h1=>by obtain rfl:=h0;obtain rfl:=h1;exact (qF7 _ y.num _ x.den V M _ (k1z.below hb) (k0d.below hb) HX.out (zB5 ly1 (by decide)) (zB5 lx2 (by decide)) HV.out HM.out).mono fun e w3 h=>zW.pd h hb.size)) ?_;refine zA (zC2 rfl (zB7 rfl) (zB8 (j:=4) (by kernel_rfl) rfl rfl) (fun _ _ h=>h)) ?_;refine zA (zI2 rfl (zB7 rfl) (zB8 (j:=5) (by kernel_rfl) rfl rfl) (fun w2 u hu=>by obtain ⟨v,u,rfl,q1,q2,q3,q4⟩:=hu;exact ⟨v,rfl,q1,q3⟩)) ?_;refine zA (zI2 rfl (zB7 rfl) (zB8 (j:=5) (by kernel_rfl) rfl rfl) (fun w2 u hu=>by obtain ⟨v,u,rfl,q1,q2,q3,q4⟩:=hu;exact ⟨u,rfl,q2,q4⟩)) ?_;refine zA (zN2 (z:=.agg #[.bool false,.slice none 0 0]) rfl rfl (fun _=>by kernel_rfl) (fun _ _ hB h=>⟨_,rfl,hB,h⟩)) ?_
   trivial
  case done29 =>
   refine fun w3 hb3 v0 h0 v1 h1 v2 h2 v3 h3 v4 h4 v5 h5 v6 h6 v7 h7 v8 h8 d8 b hbf => ?_;obtain rfl:=h0;obtain rfl:=h1;obtain rfl:=h2;obtain rfl:=h3;clear h4;clear h5;obtain ⟨q6,f6⟩:=h6;obtain ⟨q7,f7⟩:=h7;obtain ⟨g29_8,rfl,hg8,B8⟩:=h8;simp only [Act.put,zA0,zA2,zA1] at hbf;subst hbf;replace B0:=B0.below hb3;replace k0s:=k0s.below hb3;replace k0d:=k0d.below hb3;replace k0z:=k0z.below hb3;replace k0:=k0.below hb3;replace B1:=B1.below hb3;replace k1s:=k1s.below hb3;replace k1d:=k1d.below hb3;replace k1z:=k1z.below hb3;replace k1:=k1.below hb3;replace BR0:=BR0.below hb3;replace B5:=B5.below hb3;replace k5s:=k5s.below hb3;replace k5:=k5.below hb3;replace n16:=n16.below hb3;replace bb:=bb.trans (hb3.mono bb.size);have hsz3:=bb.size;have s_6:=sB;have s_7:=sB;obtain ⟨A24,c24,rfl,_⟩:=id q7;have n24:=q7;have n24f:=f7;have n24z_:=s_7;have BA7:=B8;obtain ⟨u6,rfl,q6⟩:=q6;obtain ⟨A7,c7,rfl,_⟩:=id q6;refine zI5 (i:=9) rfl rfl rfl rfl rfl rfl (cells:=[.bool (ngB V),.slice A7 (digs 4294967296 (V).natAbs).length c7]) rfl BA7 rfl (by kernel_rfl) (zG6 rfl rfl) fun w4 hg4 BN4 => ?_;replace q6:=off q6 BA7 no_ints2 hg4;replace n16:=off n16 BA7 no_ints2 hg4;replace n24:=off n24 BA7 no_ints2 hg4;replace k0s:=off k0s BA7 no_ints2 hg4;replace k0d:=off k0d BA7 no_ints2 hg4;replace k0z:IsZ w4 (.agg #[.bool (ngB (x).num),.slice A0 (digs 4294967296 (x).num.natAbs).length c0]) ((x).num):=⟨_,rfl,k0s⟩;replace k0:IsQ w4 (.agg #[.bool (ngB (x).num),.slice A0 (digs 4294967296 (x).num.natAbs).length c0,.slice D0 (digs 4294967296 (x).den).length e0]) (x):=⟨_,_,rfl,k0s,k0d⟩;replace B0:=B0.grown hg4 (by omega);replace k1s:=off k1s BA7 no_ints2 hg4;replace k1d:=off k1d BA7 no_ints2 hg4;replace k1z:IsZ w4 (.agg #[.bool (ngB (y).num),.slice A1 (digs 4294967296 (y).num.natAbs).length c1]) ((y).num):=⟨_,rfl,k1s⟩;replace k1:IsQ w4 (.agg #[.bool (ngB (y).num),.slice A1 (digs 4294967296 (y).num.natAbs).length c1,.slice D1 (digs 4294967296 (y).den).length e1]) (y):=⟨_,_,rfl,k1s,k1d⟩;replace B1:=B1.grown hg4 (by omega);replace BR0:=BR0.grown hg4 (by omega);replace k5s:=off k5s BA7 no_ints2 hg4;replace k5:IsZ w4 (.agg #[.bool (ngB U),.slice A5 (digs 4294967296 (U).natAbs).length c5]) (U):=⟨_,rfl,k5s⟩;replace B5:=B5.grown hg4 (by omega);replace bb:=bb.trans ((Below.refl _ _).grown hg4 bb.size (fun g hg=>by injection hg with hg;omega));have hsz4:=bb.size;have B7:Blk w4 (g29_8) _ _:=BN4;have k7s:=q6;have k7:IsZ w4 (.agg #[.bool (ngB V),.slice A7 (digs 4294967296 (V).natAbs).length c7]) (V):=⟨_,rfl,k7s⟩;refine zQ9 (i:=10) (.slice A24 (digs 4294967296 M).length c24) rfl rfl rfl rfl rfl fun b hbf => ?_;simp only [Act.put,zA0,zA2,zA1] at hbf;subst hbf;refine zD ?_;have f7_:=(f6 _ _ rfl).mono s_6;have sB:=bb.size;go_upto_region 3 with (fail);refine zC9 7 [Pd.eq (.agg #[.bool (ngB U),.slice A5 (digs 4294967296 (U).natAbs).length c5]),Pd.eq (.agg #[.bool (ngB V),.slice A7 (digs 4294967296 (V).natAbs).length c7]),pz ((Q).num) w4.heap.size,Pd.eq (.slice A24 (digs 4294967296 M).length c24),Pd.eq (.slice A16 (digs 4294967296 L).length c16),ps .u64 (digs 4294967296 (Q).den) w4.heap.size,pq (Q) w4.heap.size] (by kernel_rfl) ?ob30 ?done30
   case ob30 =>
    refine zA (zC rfl (zB7 rfl) (zB9 rfl rfl) (fun w2 hb=>zF7 underlying60 rfl (by kernel_rfl) (B5.below hb)) (fun _ _=>rfl)) ?_;refine zA (zC rfl (zB7 rfl) (zB9 rfl rfl) (fun w2 hb=>zF7 underlying60 rfl (by kernel_rfl) (B7.below hb)) (fun _ _=>rfl)) ?_;refine zA (zD0 rfl func56 (by kernel_rfl) (zB7 rfl) (zB8 (j:=0) (by kernel_rfl) rfl rfl) (zB8 (j:=1) (by kernel_rfl) rfl rfl) (fun w2 u0 u1 hb h0 h1=>by obtain rfl:=h0;obtain rfl:=h1;exact (zY6 _ _ U V (Q).num _ (k5.below hb) (k7.below hb) (zB5 lU.1 (by decide)) (zB5 lV.1 (by decide)) HQN.out.symm).mono fun e w3 h=>zF.pd h hb.size)) ?_;refine zA (zC2 rfl (zB7 rfl) (zB9 rfl rfl) (fun _ _ h=>h)) ?_;refine zA (zC2 rfl (zB7 rfl) (zB9 rfl rfl) (fun _ _ h=>h)) ?_;refine zA (zD0 rfl func152 (by kernel_rfl) (zB7 rfl) (zB8 (j:=3) (by kernel_rfl) rfl rfl) (zB8 (j:=4) (by kernel_rfl) rfl rfl) (fun w2 u0 u1 hb h0 h1=>by obtain rfl:=h0;obtain rfl:=h1;exact (qR3 _ M _ L _ (n24.below hb) (n16.below hb) (zB5 lV.2 (by decide)) (zB5 lU.2 (by decide))).mono fun e w3 h=>zD7.pd (zD7.to h (congrArg (digs 4294967296) HQD.out)) hb.size)) ?_;refine zA (zL rfl (zB7 rfl) (zB8 (j:=2) (by kernel_rfl) rfl rfl) (zB8 (j:=5) (by kernel_rfl) rfl rfl) (fun w2 u v hb hu hv=>by obtain ⟨u7,rfl,hu7⟩:=hu.1;obtain ⟨A7,c7,rfl,_⟩:=id hu7;obtain ⟨A8,c8,rfl,_⟩:=id hv.1;exact ⟨.agg #[.bool (ngB (Q).num),.slice A7 (digs 4294967296 (Q).num.natAbs).length c7,.slice A8 (digs 4294967296 (Q).den).length c8],by kernel_rfl,⟨⟨_,_,rfl,hu7,hv.1⟩,zM1 (hu.2 _ _ rfl) hv.2⟩⟩)) ?_
    trivial
   case done30 =>
    refine fun w5 hb5 v0 h0 v1 h1 v2 h2 v3 h3 v4 h4 v5 h5 v6 h6 b hbf => ?_;obtain rfl:=h0;obtain rfl:=h1;obtain rfl:=h3;obtain rfl:=h4;obtain ⟨q2,f2⟩:=h2;obtain ⟨q5,f5⟩:=h5;obtain ⟨q6,f6⟩:=h6;simp only [Act.put,zA0,zA2,zA1] at hbf;subst hbf;replace B0:=B0.below hb5;replace k0s:=k0s.below hb5;replace k0d:=k0d.below hb5;replace k0z:=k0z.below hb5;replace k0:=k0.below hb5;replace B1:=B1.below hb5;replace k1s:=k1s.below hb5;replace k1d:=k1d.below hb5;replace k1z:=k1z.below hb5;replace k1:=k1.below hb5;replace BR0:=BR0.below hb5;replace B5:=B5.below hb5;replace k5s:=k5s.below hb5;replace k5:=k5.below hb5;replace B7:=B7.below hb5;replace k7s:=k7s.below hb5;replace k7:=k7.below hb5;replace n16:=n16.below hb5;replace n24:=n24.below hb5;replace bb:=bb.trans (hb5.mono bb.size);have hsz5:=bb.size;have s_2:=sB;have s_5:=sB;have s_6:=sB;obtain ⟨u6,t6,rfl,q6,d6⟩:=q6;obtain ⟨A9,c9,rfl,_⟩:=id q6;obtain ⟨D9,e9,rfl,_⟩:=id d6;have fS:=(f6 _ _ _ rfl).1.mono s_6;have fT:=(f6 _ _ _ rfl).2.mono s_6;refine zI5 (i:=7) rfl rfl rfl rfl rfl rfl (cells:=[.bool (ngB (Q).num),.slice A9 (digs 4294967296 (Q).num.natAbs).length c9,.slice D9 (digs 4294967296 (Q).den).length e9]) rfl BR0 rfl (by kernel_rfl) (zI6 rfl rfl rfl) fun w9 hg9 B9 => ?_;have k9:=off q6 BR0 zE0 hg9;have d9:=off d6 BR0 zE0 hg9;have bb9:=bb.trans ((Below.refl _ _).grown hg9 bb.size (fun g hg=>by injection hg with hg;omega));obtain ⟨C0,C1,C2,_,_,_⟩:=three B9;refine zD ?_;go_wp2;rw [HQ0.out];exact bodyPost_ret (v:=.agg #[.bool (ngB (Q).num),.slice A9 (digs 4294967296 (Q).num.natAbs).length c9,.slice D9 (digs 4294967296 (Q).den).length e9]) (by simp [results,results127,go_sem,C0,C1,C2]) rfl ⟨_,rfl,zV8 k9 d9 rfl rfl rfl,zM1 fS fT,bb9⟩
theorem jA1 (a0:Value) (x:Rat) (a1:Value) (y:Rat) (w:World) (h0:IsQ w a0 x) (h1:IsQ w a1 y) (hl:zC6 x 4900) (hl2:zC6 y 4900) :
  Calls prog 175 #[a0,a1] w (RetQ (x+y) w):=by
 obtain ⟨u0,t0,rfl,s0,r0⟩:=h0;obtain ⟨A0,c0,rfl,_⟩:=id s0;obtain ⟨D0,e0,rfl,_⟩:=id r0;obtain ⟨u1,t1,rfl,s1,r1⟩:=h1;obtain ⟨A1,c1,rfl,_⟩:=id s1;obtain ⟨D1,e1,rfl,_⟩:=id r1;obtain ⟨G,hG⟩:∃ G,G=Nat.gcd x.den y.den:=⟨_,rfl⟩;obtain ⟨m1,ha⟩:∃ m1,m1=x.den / G:=⟨_,rfl⟩;obtain ⟨m2,hb_⟩:∃ m2,m2=y.den / G:=⟨_,rfl⟩;have hGp:0<G:=by rw [hG];exact Nat.gcd_pos_of_pos_left _ x.den_pos
 have hGd:G<=x.den:=by rw [hG];exact Nat.gcd_le_left _ x.den_pos
 obtain ⟨S,hS⟩:∃ S,S=(x.num*((m2:Nat):Int)+y.num*((m1:Nat):Int)):=⟨_,rfl⟩;obtain ⟨U,hU⟩:∃ U,U=(mkRat S G).num:=⟨_,rfl⟩;obtain ⟨L,hL⟩:∃ L,L=(mkRat S G).den:=⟨_,rfl⟩;obtain ⟨Q,hQ⟩:∃ Q,Q=x+y:=⟨_,rfl⟩;have HQ0:Hid (x+y=Q):=hQ.symm;have HP:=yX3 x y hG ha hb_;rw [<- hS,<- hU,<- hL,<- hQ] at HP;have HQN:=hQ9 HP.1;have HQD:=hQ9 HP.2;have lx1:=hl.1;have lx2:=hl.2;have ly1:=hl2.1;have ly2:=hl2.2;have la:(digs 4294967296 m1).length<=4900:=zB5 (zG5 (by omega) (by rw [ha];exact Nat.div_le_self _ _)) lx2;have lb:(digs 4294967296 m2).length<=4900:=zB5 (zG5 (by omega) (by rw [hb_];exact Nat.div_le_self _ _)) ly2;have lG:(digs 4294967296 G).length<=4900:=zB5 (zG5 (by omega) hGd) lx2;have lza:zC4 ((m1:Nat):Int)<=4900:=by rw [zP6];exact la
 have lzb:zC4 ((m2:Nat):Int)<=4900:=by rw [zP6];exact lb
 have lp:zC4 (x.num*((m2:Nat):Int))<=9800:=zO3 lx1 lzb;have lq:zC4 (y.num*((m1:Nat):Int))<=9800:=zO3 ly1 lza;have lS:zC4 S<=19601:=by rw [hS];exact yD lp lq
 have HL1:Hid ((digs 4294967296 x.den).length<=90000):=zB5 lx2 (by decide);have HL2:Hid ((digs 4294967296 y.den).length<=90000):=zB5 ly2 (by decide);have lL:(digs 4294967296 L).length<=4900:=zB5 (zG5 (by omega) (by rw [hL,zV5 S (by omega)];exact Nat.div_le_self _ _)) lG;have lab:(digs 4294967296 (m1*m2)).length<=9800:=by have:=zT3 m1 m2;omega
 have HG:Hid (zO2 [x.den,y.den]=G):=by show _=_;rw [hG];simp [zO2]
 have HM1:Hid (x.den % G=0):=by show _=_;rw [hG];exact Nat.mod_eq_zero_of_dvd (Nat.gcd_dvd_left _ _)
 have HM2:Hid (y.den % G=0):=by show _=_;rw [hG];exact Nat.mod_eq_zero_of_dvd (Nat.gcd_dvd_right _ _)
 have HA:=hQ9 ha;have HB:=hQ9 hb_;have HS:Hid ((x.num*((m2:Nat):Int)+y.num*((m1:Nat):Int))=S):=hS.symm;have HU:=hQ9 hU;have HL:=hQ9 hL;have HGn:Hid (G≠0):=by show _≠_;omega
 clear hG ha hb_ hS hU hL hQ HP
 go_enter func175,ntmps175
 go_upto_region 1 with (fail)
 obtain ⟨wx,hwx,bb,B0,B1,BR0,hsz⟩:=zK6 w 83 83 83 #[.bool (ngB (x).num),.slice A0 (digs 4294967296 (x).num.natAbs).length c0,.slice D0 (digs 4294967296 (x).den).length e0] #[.bool (ngB (y).num),.slice A1 (digs 4294967296 (y).num.natAbs).length c1,.slice D1 (digs 4294967296 (y).den).length e1] #[.bool false,.slice none 0 0,.slice none 0 0];rw [hwx];clear hwx;have k0s:=s0.below bb;have k0d:=r0.below bb;have k0z:IsZ wx (.agg #[.bool (ngB (x).num),.slice A0 (digs 4294967296 (x).num.natAbs).length c0]) (x).num:=⟨_,rfl,k0s⟩;have k0:IsQ wx (.agg #[.bool (ngB (x).num),.slice A0 (digs 4294967296 (x).num.natAbs).length c0,.slice D0 (digs 4294967296 (x).den).length e0]) (x):=⟨_,_,rfl,k0s,k0d⟩;have k1s:=s1.below bb;have k1d:=r1.below bb;have k1z:IsZ wx (.agg #[.bool (ngB (y).num),.slice A1 (digs 4294967296 (y).num.natAbs).length c1]) (y).num:=⟨_,rfl,k1s⟩;have k1:IsQ wx (.agg #[.bool (ngB (y).num),.slice A1 (digs 4294967296 (y).num.natAbs).length c1,.slice D1 (digs 4294967296 (y).den).length e1]) (y):=⟨_,_,rfl,k1s,k1d⟩;have hsz0:=bb.size;obtain ⟨x00,x01,x02,_,_,_⟩:=three B0;obtain ⟨x10,x11,x12,_,_,_⟩:=three B1;go_wp2_with fail
 have hbA:=zD1 (zB4 wx.heap.size) (.cells #[.slice D0 (digs 4294967296 (x).den).length e0,.slice D1 (digs 4294967296 (y).den).length e1] 50);refine (qR0 _ [_,_] [x.den,y.den] _ (zR8 wx 50 [_,_]) (qI6 (k0d.below hbA) (k1d.below hbA)) (by simp) (by intro q hq;simp at hq;rcases hq with rfl|rfl;exact HL1.out;exact HL2.out)).mono ?_;rintro e w1 ⟨v1,rfl,kg,kgf,b1⟩;have hb1:=hbA.trans (b1.mono hbA.size);rw [HG.out] at kg;clear x00 x01 x02 x10 x11 x12;replace B0:=B0.below hb1;replace k0s:=k0s.below hb1;replace k0d:=k0d.below hb1;replace k0z:=k0z.below hb1;replace k0:=k0.below hb1;replace B1:=B1.below hb1;replace k1s:=k1s.below hb1;replace k1d:=k1d.below hb1;replace k1z:=k1z.below hb1;replace k1:=k1.below hb1;replace BR0:=BR0.below hb1;replace bb:=bb.trans (hb1.mono bb.size);have hsz1:=bb.size;obtain ⟨Akg,ckg,rfl,_⟩:=id kg;have sB:=bb.size;go_upto_region 2 with (fail);refine zC9 9 [Pd.eq (.pointer (some ⟨w.heap.size,2,none⟩)),Pd.eq (.slice D0 (digs 4294967296 (x).den).length e0),Pd.eq (.slice Akg (digs 4294967296 G).length ckg),pt .u64 (digs 4294967296 m1) 0 w1.heap.size,pt .u64 (digs 4294967296 m1) 0 w1.heap.size,ps .u64 (digs 4294967296 m1) w1.heap.size,Pd.eq (.int .i64 0),ps .u64 (digs 4294967296 m1) w1.heap.size,Pd.eq (.int .i64 0)] (by kernel_rfl) ?ob37 ?done37
 case ob37 =>
  refine zA (zC1 rfl (zB7 rfl) (zB9 rfl rfl) (fun _=>by kernel_rfl) (fun _=>rfl)) ?_;refine zA (zC rfl (zB7 rfl) (zB8 (j:=0) (by kernel_rfl) rfl rfl) (fun w2 hb=>zC3 underlying50 rfl ((B0.below hb).cell 2)) (fun _ _=>rfl)) ?_;refine zA (zC2 rfl (zB7 rfl) (zB9 rfl rfl) (fun _ _ h=>h)) ?_;refine zA (zD0 rfl func55 (by kernel_rfl) (zB7 rfl) (zB8 (j:=1) (by kernel_rfl) rfl rfl) (zB8 (j:=2) (by kernel_rfl) rfl rfl) (fun w2 u0 u1 hb h0 h1=>by obtain rfl:=h0;obtain rfl:=h1;exact (qA6 _ _ x.den G _ (k0d.below hb) (kg.below hb) HL1.out (zB5 lG (by decide)) hGp m1 HM1.out HA.out).mono fun e w3 h=>zP.pd h hb.size)) ?_;refine zA (zC2 rfl (zB7 rfl) (zB8 (j:=3) (by kernel_rfl) rfl rfl) (fun _ _ h=>h)) ?_;refine zA (zI2 rfl (zB7 rfl) (zB8 (j:=4) (by kernel_rfl) rfl rfl) (fun w2 u hu=>by obtain ⟨v,rfl,q1,q2⟩:=hu;exact ⟨v,rfl,q1,q2⟩)) ?_;refine zA (zI2 rfl (zB7 rfl) (zB8 (j:=4) (by kernel_rfl) rfl rfl) (fun w2 u hu=>by obtain ⟨v,rfl,q1,q2⟩:=hu;exact ⟨_,rfl,rfl⟩)) ?_;refine zA (zE6 rfl (zB7 rfl) (zB8 (j:=5) (by kernel_rfl) rfl rfl) (fun _ _ h=>h)) ?_;refine zA (zE6 rfl (zB7 rfl) (zB8 (j:=6) (by kernel_rfl) rfl rfl) (fun _ _ h=>h)) ?_
  trivial
 case done37 =>
  refine fun w2 hb2 v0 h0 v1 h1 v2 h2 v3 h3 v4 h4 v5 h5 v6 h6 v7 h7 v8 h8 b hbf => ?_;obtain rfl:=h0;obtain rfl:=h1;obtain rfl:=h2;obtain rfl:=h6;obtain rfl:=h8;clear h3;clear h4;obtain ⟨q5,f5⟩:=h5;obtain ⟨q7,f7⟩:=h7;simp only [Act.put,zA0,zA2,zA1] at hbf;subst hbf;replace B0:=B0.below hb2;replace k0s:=k0s.below hb2;replace k0d:=k0d.below hb2;replace k0z:=k0z.below hb2;replace k0:=k0.below hb2;replace B1:=B1.below hb2;replace k1s:=k1s.below hb2;replace k1d:=k1d.below hb2;replace k1z:=k1z.below hb2;replace k1:=k1.below hb2;replace BR0:=BR0.below hb2;replace kg:=kg.below hb2;replace bb:=bb.trans (hb2.mono bb.size);have hsz2:=bb.size;have s_5:=sB;have s_7:=sB;refine zD ?_;obtain ⟨A6,c6,rfl,_⟩:=id q7;have n6:=q7;have n6f:=f7;have n6z_:=s_7;have sB:=bb.size;go_upto_region 3 with (fail);refine zC9 9 [Pd.eq (.pointer (some ⟨w.heap.size+1,2,none⟩)),Pd.eq (.slice D1 (digs 4294967296 (y).den).length e1),Pd.eq (.slice Akg (digs 4294967296 G).length ckg),pt .u64 (digs 4294967296 m2) 0 w2.heap.size,pt .u64 (digs 4294967296 m2) 0 w2.heap.size,ps .u64 (digs 4294967296 m2) w2.heap.size,Pd.eq (.int .i64 0),ps .u64 (digs 4294967296 m2) w2.heap.size,Pd.eq (.int .i64 0)] (by kernel_rfl) ?ob38 ?done38
  case ob38 =>
   refine zA (zC1 rfl (zB7 rfl) (zB9 rfl rfl) (fun _=>by kernel_rfl) (fun _=>rfl)) ?_;refine zA (zC rfl (zB7 rfl) (zB8 (j:=0) (by kernel_rfl) rfl rfl) (fun w2 hb=>zC3 underlying50 rfl ((B1.below hb).cell 2)) (fun _ _=>rfl)) ?_;refine zA (zC2 rfl (zB7 rfl) (zB9 rfl rfl) (fun _ _ h=>h)) ?_;refine zA (zD0 rfl func55 (by kernel_rfl) (zB7 rfl) (zB8 (j:=1) (by kernel_rfl) rfl rfl) (zB8 (j:=2) (by kernel_rfl) rfl rfl) (fun w2 u0 u1 hb h0 h1=>by obtain rfl:=h0;obtain rfl:=h1;exact (qA6 _ _ y.den G _ (k1d.below hb) (kg.below hb) HL2.out (zB5 lG (by decide)) hGp m2 HM2.out HB.out).mono fun e w3 h=>zP.pd h hb.size)) ?_;refine zA (zC2 rfl (zB7 rfl) (zB8 (j:=3) (by kernel_rfl) rfl rfl) (fun _ _ h=>h)) ?_;refine zA (zI2 rfl (zB7 rfl) (zB8 (j:=4) (by kernel_rfl) rfl rfl) (fun w2 u hu=>by obtain ⟨v,rfl,q1,q2⟩:=hu;exact ⟨v,rfl,q1,q2⟩)) ?_;refine zA (zI2 rfl (zB7 rfl) (zB8 (j:=4) (by kernel_rfl) rfl rfl) (fun w2 u hu=>by obtain ⟨v,rfl,q1,q2⟩:=hu;exact ⟨_,rfl,rfl⟩)) ?_;refine zA (zE6 rfl (zB7 rfl) (zB8 (j:=5) (by kernel_rfl) rfl rfl) (fun _ _ h=>h)) ?_;refine zA (zE6 rfl (zB7 rfl) (zB8 (j:=6) (by kernel_rfl) rfl rfl) (fun _ _ h=>h)) ?_
   trivial
  case done38 =>
   refine fun w3 hb3 v0 h0 v1 h1 v2 h2 v3 h3 v4 h4 v5 h5 v6 h6 v7 h7 v8 h8 b hbf => ?_;obtain rfl:=h0;obtain rfl:=h1;obtain rfl:=h2;obtain rfl:=h6;obtain rfl:=h8;clear h3;clear h4;obtain ⟨q5,f5⟩:=h5;obtain ⟨q7,f7⟩:=h7;simp only [Act.put,zA0,zA2,zA1] at hbf;subst hbf;replace B0:=B0.below hb3;replace k0s:=k0s.below hb3;replace k0d:=k0d.below hb3;replace k0z:=k0z.below hb3;replace k0:=k0.below hb3;replace B1:=B1.below hb3;replace k1s:=k1s.below hb3;replace k1d:=k1d.below hb3;replace k1z:=k1z.below hb3;replace k1:=k1.below hb3;replace BR0:=BR0.below hb3;replace kg:=kg.below hb3;replace n6:=n6.below hb3;replace bb:=bb.trans (hb3.mono bb.size);have hsz3:=bb.size;have s_5:=sB;have s_7:=sB;refine zD ?_;obtain ⟨A8,c8,rfl,_⟩:=id q7;have n8:=q7;have n8f:=f7;have n8z_:=s_7;have sB:=bb.size;go_upto_region 4 with (fail);have lt3_2:=Blk.lt B0;have lt3_3:=Blk.lt B1;have lt3_4:=Blk.lt BR0;refine flow 12 [Pd.eq (.pointer (some ⟨w.heap.size,0,none⟩)),Pd.eq (.agg #[.bool (ngB (x).num),.slice A0 (digs 4294967296 (x).num.natAbs).length c0]),Pd.eq (.slice A8 (digs 4294967296 m2).length c8),pi (((m2:Nat):Int)),pi ((x.num*((m2:Nat):Int))),Pd.eq (.pointer (some ⟨w.heap.size+1,0,none⟩)),Pd.eq (.agg #[.bool (ngB (y).num),.slice A1 (digs 4294967296 (y).num.natAbs).length c1]),Pd.eq (.slice A6 (digs 4294967296 m1).length c6),pi (((m1:Nat):Int)),pi ((y.num*((m1:Nat):Int))),pz (S) w3.heap.size,pn 60 #[.bool false,.slice none 0 0] w3.heap.size] (by kernel_rfl) (by kernel_rfl) ?ob39 ?done39
   case ob39 =>
    refine zA (zC1 rfl (zB7 rfl) (zB9 rfl rfl) (fun _=>by kernel_rfl) (fun _=>rfl)) ?_;refine zA (zC rfl (zB7 rfl) (zB8 (j:=0) (by kernel_rfl) rfl rfl) (fun w2 hb=>zM7 underlying60 rfl (by kernel_rfl) (B0.drew.below hb) rfl) (fun _ _=>rfl)) ?_;refine zA (zC2 rfl (zB7 rfl) (zB9 rfl rfl) (fun _ _ h=>h)) ?_;refine zA (zF6 rfl func149 (by kernel_rfl) (zB7 rfl) (zB8 (j:=2) (by kernel_rfl) rfl rfl) (fun w2 u0 hb h0=>by obtain rfl:=h0;exact qF6 _ (m2) _ (n8.drew.below hb))) ?_;refine zA (zD0 rfl func56 (by kernel_rfl) (zB7 rfl) (zB8 (j:=1) (by kernel_rfl) rfl rfl) (zB8 (j:=3) (by kernel_rfl) rfl rfl) (fun w2 u0 u1 hb h0 h1=>by obtain rfl:=h0;exact (zY6 _ _ _ _ (x.num*((m2:Nat):Int)) _ (k0z.drew.below hb) h1 (zB5 lx1 (by decide)) (zB5 lzb (by decide)) rfl).mono fun e w3 h=>zF.pi h)) ?_;refine zA (zC1 rfl (zB7 rfl) (zB9 rfl rfl) (fun _=>by kernel_rfl) (fun _=>rfl)) ?_;refine zA (zC rfl (zB7 rfl) (zB8 (j:=5) (by kernel_rfl) rfl rfl) (fun w2 hb=>zM7 underlying60 rfl (by kernel_rfl) (B1.drew.below hb) rfl) (fun _ _=>rfl)) ?_;refine zA (zC2 rfl (zB7 rfl) (zB9 rfl rfl) (fun _ _ h=>h)) ?_;refine zA (zF6 rfl func149 (by kernel_rfl) (zB7 rfl) (zB8 (j:=7) (by kernel_rfl) rfl rfl) (fun w2 u0 hb h0=>by obtain rfl:=h0;exact qF6 _ (m1) _ (n6.drew.below hb))) ?_;refine zA (zD0 rfl func56 (by kernel_rfl) (zB7 rfl) (zB8 (j:=6) (by kernel_rfl) rfl rfl) (zB8 (j:=8) (by kernel_rfl) rfl rfl) (fun w2 u0 u1 hb h0 h1=>by obtain rfl:=h0;exact (zY6 _ _ _ _ (y.num*((m1:Nat):Int)) _ (k1z.drew.below hb) h1 (zB5 ly1 (by decide)) (zB5 lza (by decide)) rfl).mono fun e w3 h=>zF.pi h)) ?_;refine zA (zD0 rfl func176 (by kernel_rfl) (zB7 rfl) (zB8 (j:=4) (by kernel_rfl) rfl rfl) (zB8 (j:=9) (by kernel_rfl) rfl rfl) (fun w2 u0 u1 hb h0 h1=>by exact (HS.out ▸ yC1 _ _ _ _ _ h0 h1 (zB5 lp (by decide)) (zB5 lq (by decide))).mono fun e w3 h=>zF.pd h hb.size)) ?_;refine zA (zN2 (z:=.agg #[.bool false,.slice none 0 0]) rfl rfl (fun _=>by kernel_rfl) (fun _ _ hB h=>⟨_,rfl,hB,h⟩)) ?_
    trivial
   case done39 =>
    refine fun w4 hb4 v0 h0 v1 h1 v2 h2 v3 h3 v4 h4 v5 h5 v6 h6 v7 h7 v8 h8 v9 h9 v10 h10 v11 h11 d11 b hbf => ?_;obtain rfl:=h0;obtain rfl:=h1;obtain rfl:=h2;obtain rfl:=h5;obtain rfl:=h6;obtain rfl:=h7;have q3:=h3;have q4:=h4;have q8:=h8;have q9:=h9;obtain ⟨q10,f10⟩:=h10;obtain ⟨g39_11,rfl,hg11,B11⟩:=h11;simp only [Act.put,zA0,zA2,zA1] at hbf;subst hbf;replace B0:=B0.below hb4;replace k0s:=k0s.below hb4;replace k0d:=k0d.below hb4;replace k0z:=k0z.below hb4;replace k0:=k0.below hb4;replace B1:=B1.below hb4;replace k1s:=k1s.below hb4;replace k1d:=k1d.below hb4;replace k1z:=k1z.below hb4;replace k1:=k1.below hb4;replace BR0:=BR0.below hb4;replace kg:=kg.below hb4;replace n6:=n6.below hb4;replace n8:=n8.below hb4;replace bb:=bb.trans (hb4.mono bb.size);have hsz4:=bb.size;have s_10:=sB;have BA10:=B11;obtain ⟨u10,rfl,q10⟩:=q10;obtain ⟨A10,c10,rfl,_⟩:=id q10;refine zI (i:=12) (by kernel_rfl) rfl rfl rfl rfl rfl rfl (cells:=[.bool (ngB S),.slice A10 (digs 4294967296 (S).natAbs).length c10]) rfl BA10 rfl (by kernel_rfl) (zG6 rfl rfl) fun w5 hg5 BN5 => ?_;replace q10:=off q10 BA10 no_ints2 hg5;replace kg:=off kg BA10 no_ints2 hg5;replace n6:=off n6 BA10 no_ints2 hg5;replace n8:=off n8 BA10 no_ints2 hg5;replace k0s:=off k0s BA10 no_ints2 hg5;replace k0d:=off k0d BA10 no_ints2 hg5;replace k0z:IsZ w5 (.agg #[.bool (ngB (x).num),.slice A0 (digs 4294967296 (x).num.natAbs).length c0]) ((x).num):=⟨_,rfl,k0s⟩;replace k0:IsQ w5 (.agg #[.bool (ngB (x).num),.slice A0 (digs 4294967296 (x).num.natAbs).length c0,.slice D0 (digs 4294967296 (x).den).length e0]) (x):=⟨_,_,rfl,k0s,k0d⟩;replace B0:=B0.grown hg5 (by omega);replace k1s:=off k1s BA10 no_ints2 hg5;replace k1d:=off k1d BA10 no_ints2 hg5;replace k1z:IsZ w5 (.agg #[.bool (ngB (y).num),.slice A1 (digs 4294967296 (y).num.natAbs).length c1]) ((y).num):=⟨_,rfl,k1s⟩;replace k1:IsQ w5 (.agg #[.bool (ngB (y).num),.slice A1 (digs 4294967296 (y).num.natAbs).length c1,.slice D1 (digs 4294967296 (y).den).length e1]) (y):=⟨_,_,rfl,k1s,k1d⟩;replace B1:=B1.grown hg5 (by omega);replace BR0:=BR0.grown hg5 (by omega);replace bb:=bb.trans ((Below.refl _ _).grown hg5 bb.size (fun g hg=>by injection hg with hg;omega));have hsz5:=bb.size;have B10:Blk w5 (g39_11) _ _:=BN5;have k10s:=q10;have k10:IsZ w5 (.agg #[.bool (ngB S),.slice A10 (digs 4294967296 (S).natAbs).length c10]) (S):=⟨_,rfl,k10s⟩;refine zF8 (by kernel_rfl) ?_;have sB:=bb.size;go_upto_region 5 with (fail);have lt5_2:=Blk.lt B0;have lt5_3:=Blk.lt B1;have lt5_4:=Blk.lt BR0;have lt5_10:=Blk.lt B10;refine zC9 7 [Pd.eq (.agg #[.bool (ngB S),.slice A10 (digs 4294967296 (S).natAbs).length c10]),Pd.eq (.slice Akg (digs 4294967296 G).length ckg),pzs (U) (L) w5.heap.size,pzs (U) (L) w5.heap.size,pz (U) w5.heap.size,ps .u64 (digs 4294967296 L) w5.heap.size,pn 60 #[.bool false,.slice none 0 0] w5.heap.size] (by kernel_rfl) ?ob40 ?done40
    case ob40 =>
     refine zA (zC rfl (zB7 rfl) (zB9 rfl rfl) (fun w2 hb=>zF7 underlying60 rfl (by kernel_rfl) (B10.below hb)) (fun _ _=>rfl)) ?_;refine zA (zC2 rfl (zB7 rfl) (zB9 rfl rfl) (fun _ _ h=>h)) ?_;refine zA (zD0 rfl func120 (by kernel_rfl) (zB7 rfl) (zB8 (j:=0) (by kernel_rfl) rfl rfl) (zB8 (j:=1) (by kernel_rfl) rfl rfl) (fun w2 u0 u1 hb h0 h1=>by obtain rfl:=h0;obtain rfl:=h1;exact (qF7 _ S _ G U L _ (k10.below hb) (kg.below hb) HGn.out (zB5 lS (by decide)) (zB5 lG (by decide)) HU.out HL.out).mono fun e w3 h=>zW.pd h hb.size)) ?_;refine zA (zC2 rfl (zB7 rfl) (zB8 (j:=2) (by kernel_rfl) rfl rfl) (fun _ _ h=>h)) ?_;refine zA (zI2 rfl (zB7 rfl) (zB8 (j:=3) (by kernel_rfl) rfl rfl) (fun w2 u hu=>by obtain ⟨v,u,rfl,q1,q2,q3,q4⟩:=hu;exact ⟨v,rfl,q1,q3⟩)) ?_;refine zA (zI2 rfl (zB7 rfl) (zB8 (j:=3) (by kernel_rfl) rfl rfl) (fun w2 u hu=>by obtain ⟨v,u,rfl,q1,q2,q3,q4⟩:=hu;exact ⟨u,rfl,q2,q4⟩)) ?_;refine zA (zN2 (z:=.agg #[.bool false,.slice none 0 0]) rfl rfl (fun _=>by kernel_rfl) (fun _ _ hB h=>⟨_,rfl,hB,h⟩)) ?_
     trivial
    case done40 =>
     refine fun w6 hb6 v0 h0 v1 h1 v2 h2 v3 h3 v4 h4 v5 h5 v6 h6 d6 b hbf => ?_;obtain rfl:=h0;obtain rfl:=h1;clear h2;clear h3;obtain ⟨q4,f4⟩:=h4;obtain ⟨q5,f5⟩:=h5;obtain ⟨g40_6,rfl,hg6,B6⟩:=h6;simp only [Act.put,zA0,zA2,zA1] at hbf;subst hbf;replace B0:=B0.below hb6;replace k0s:=k0s.below hb6;replace k0d:=k0d.below hb6;replace k0z:=k0z.below hb6;replace k0:=k0.below hb6;replace B1:=B1.below hb6;replace k1s:=k1s.below hb6;replace k1d:=k1d.below hb6;replace k1z:=k1z.below hb6;replace k1:=k1.below hb6;replace BR0:=BR0.below hb6;replace B10:=B10.below hb6;replace k10s:=k10s.below hb6;replace k10:=k10.below hb6;replace kg:=kg.below hb6;replace n6:=n6.below hb6;replace n8:=n8.below hb6;replace bb:=bb.trans (hb6.mono bb.size);have hsz6:=bb.size;have s_4:=sB;have s_5:=sB;obtain ⟨A49,c49,rfl,_⟩:=id q5;have n49:=q5;have n49f:=f5;have n49z_:=s_5;have BA11:=B6;obtain ⟨u4,rfl,q4⟩:=q4;obtain ⟨A11,c11,rfl,_⟩:=id q4;refine zI5 (i:=7) rfl rfl rfl rfl rfl rfl (cells:=[.bool (ngB U),.slice A11 (digs 4294967296 (U).natAbs).length c11]) rfl BA11 rfl (by kernel_rfl) (zG6 rfl rfl) fun w7 hg7 BN7 => ?_;replace q4:=off q4 BA11 no_ints2 hg7;replace kg:=off kg BA11 no_ints2 hg7;replace n6:=off n6 BA11 no_ints2 hg7;replace n8:=off n8 BA11 no_ints2 hg7;replace n49:=off n49 BA11 no_ints2 hg7;replace k0s:=off k0s BA11 no_ints2 hg7;replace k0d:=off k0d BA11 no_ints2 hg7;replace k0z:IsZ w7 (.agg #[.bool (ngB (x).num),.slice A0 (digs 4294967296 (x).num.natAbs).length c0]) ((x).num):=⟨_,rfl,k0s⟩;replace k0:IsQ w7 (.agg #[.bool (ngB (x).num),.slice A0 (digs 4294967296 (x).num.natAbs).length c0,.slice D0 (digs 4294967296 (x).den).length e0]) (x):=⟨_,_,rfl,k0s,k0d⟩;replace B0:=B0.grown hg7 (by omega);replace k1s:=off k1s BA11 no_ints2 hg7;replace k1d:=off k1d BA11 no_ints2 hg7;replace k1z:IsZ w7 (.agg #[.bool (ngB (y).num),.slice A1 (digs 4294967296 (y).num.natAbs).length c1]) ((y).num):=⟨_,rfl,k1s⟩;replace k1:IsQ w7 (.agg #[.bool (ngB (y).num),.slice A1 (digs 4294967296 (y).num.natAbs).length c1,.slice D1 (digs 4294967296 (y).den).length e1]) (y):=⟨_,_,rfl,k1s,k1d⟩;replace B1:=B1.grown hg7 (by omega);replace BR0:=BR0.grown hg7 (by omega);replace k10s:=off k10s BA11 no_ints2 hg7;replace k10:IsZ w7 (.agg #[.bool (ngB S),.slice A10 (digs 4294967296 (S).natAbs).length c10]) (S):=⟨_,rfl,k10s⟩;replace B10:=B10.grown hg7 (by omega);replace bb:=bb.trans ((Below.refl _ _).grown hg7 bb.size (fun g hg=>by injection hg with hg;omega));have hsz7:=bb.size;have B11:Blk w7 (g40_6) _ _:=BN7;have k11s:=q4;have k11:IsZ w7 (.agg #[.bool (ngB U),.slice A11 (digs 4294967296 (U).natAbs).length c11]) (U):=⟨_,rfl,k11s⟩;refine zQ9 (i:=8) (.slice A49 (digs 4294967296 L).length c49) rfl rfl rfl rfl rfl fun b hbf => ?_;simp only [Act.put,zA0,zA2,zA1] at hbf;subst hbf;refine zD ?_;have f11_:=(f4 _ _ rfl).mono s_4;have sB:=bb.size;go_upto_region 6 with (fail);refine flow 7 [Pd.eq (.agg #[.bool (ngB U),.slice A11 (digs 4294967296 (U).natAbs).length c11]),Pd.eq (.slice A6 (digs 4294967296 m1).length c6),Pd.eq (.slice A8 (digs 4294967296 m2).length c8),ps .u64 (digs 4294967296 (m1*m2)) w7.heap.size,Pd.eq (.slice A49 (digs 4294967296 L).length c49),ps .u64 (digs 4294967296 ((m1*m2)*L)) w7.heap.size,pbq (ngB U) (.slice A11 (digs 4294967296 (U).natAbs).length c11) (digs 4294967296 ((m1*m2)*L)) w7.heap.size] (by kernel_rfl) (by kernel_rfl) ?ob41 ?done41
     case ob41 =>
      refine zA (zC rfl (zB7 rfl) (zB9 rfl rfl) (fun w2 hb=>zF7 underlying60 rfl (by kernel_rfl) (B11.drew.below hb)) (fun _ _=>rfl)) ?_;refine zA (zC2 rfl (zB7 rfl) (zB9 rfl rfl) (fun _ _ h=>h)) ?_;refine zA (zC2 rfl (zB7 rfl) (zB9 rfl rfl) (fun _ _ h=>h)) ?_;refine zA (zD0 rfl func152 (by kernel_rfl) (zB7 rfl) (zB8 (j:=1) (by kernel_rfl) rfl rfl) (zB8 (j:=2) (by kernel_rfl) rfl rfl) (fun w2 u0 u1 hb h0 h1=>by obtain rfl:=h0;obtain rfl:=h1;exact (qR3 _ m1 _ m2 _ (n6.drew.below hb) (n8.drew.below hb) (zB5 la (by decide)) (zB5 lb (by decide))).mono fun e w3 h=>zD7.pd h hb.size)) ?_;refine zA (zC2 rfl (zB7 rfl) (zB9 rfl rfl) (fun _ _ h=>h)) ?_;refine zA (zD0 rfl func152 (by kernel_rfl) (zB7 rfl) (zB8 (j:=3) (by kernel_rfl) rfl rfl) (zB8 (j:=4) (by kernel_rfl) rfl rfl) (fun w2 u0 u1 hb h0 h1=>by obtain rfl:=h1;exact (qR3 _ (m1*m2) _ L _ h0.1 (n49.drew.below hb) (zB5 lab (by decide)) (zB5 lL (by decide))).mono fun e w3 h=>zD7.pd h hb.size)) ?_;refine zA (zL rfl (zB7 rfl) (zB8 (j:=0) (by kernel_rfl) rfl rfl) (zB8 (j:=5) (by kernel_rfl) rfl rfl) (fun w2 u v hb hu hv=>by obtain rfl:=hu;obtain ⟨A7,c7,rfl,_⟩:=id hv.1;exact ⟨.agg #[.bool (ngB U),.slice A11 (digs 4294967296 (U).natAbs).length c11,.slice A7 (digs 4294967296 ((m1*m2)*L)).length c7],by kernel_rfl,⟨A7,c7,rfl,hv.1,hv.2⟩⟩)) ?_
      trivial
     case done41 =>
      refine fun w8 hb8 v0 h0 v1 h1 v2 h2 v3 h3 v4 h4 v5 h5 v6 h6 b hbf => ?_;obtain rfl:=h0;obtain rfl:=h1;obtain rfl:=h2;obtain rfl:=h4;obtain ⟨q3,f3⟩:=h3;obtain ⟨q5,f5⟩:=h5;have q6:=h6;have s9_:=sB;simp only [Act.put,zA0,zA2,zA1] at hbf;subst hbf;replace B0:=B0.below hb8;replace k0s:=k0s.below hb8;replace k0d:=k0d.below hb8;replace k0z:=k0z.below hb8;replace k0:=k0.below hb8;replace B1:=B1.below hb8;replace k1s:=k1s.below hb8;replace k1d:=k1d.below hb8;replace k1z:=k1z.below hb8;replace k1:=k1.below hb8;replace BR0:=BR0.below hb8;replace B10:=B10.below hb8;replace k10s:=k10s.below hb8;replace k10:=k10.below hb8;replace B11:=B11.below hb8;replace k11s:=k11s.below hb8;replace k11:=k11.below hb8;replace kg:=kg.below hb8;replace n6:=n6.below hb8;replace n8:=n8.below hb8;replace n49:=n49.below hb8;replace bb:=bb.trans (hb8.mono bb.size);have hsz8:=bb.size;have s_3:=sB;have s_5:=sB;obtain ⟨A9,c9,rfl,q9,f9⟩:=q6;refine zI (i:=7) (by kernel_rfl) rfl rfl rfl rfl rfl rfl (cells:=[.bool (ngB U),.slice A11 (digs 4294967296 (U).natAbs).length c11,.slice A9 (digs 4294967296 ((m1*m2)*L)).length c9]) rfl BR0 rfl (by kernel_rfl) (zI6 rfl rfl rfl) fun w9 hg9 B9 => ?_;have k9:=off k11s BR0 zE0 hg9;have d9:=off q9 BR0 zE0 hg9;have bb9:=bb.trans ((Below.refl _ _).grown hg9 bb.size (fun g hg=>by injection hg with hg;omega));obtain ⟨C0,C1,C2,_,_,_⟩:=three B9;refine zF8 (by kernel_rfl) ?_;go_wp2;rw [HQ0.out];exact bodyPost_ret (v:=.agg #[.bool (ngB U),.slice A11 (digs 4294967296 (U).natAbs).length c11,.slice A9 (digs 4294967296 ((m1*m2)*L)).length c9]) (by simp [results,results175,go_sem,C0,C1,C2]) rfl ⟨_,rfl,zV8 k9 d9 (by rw [HQN.out]) (by rw [HQN.out]) HQD.out,zM1 f11_ (f9.mono s9_),bb9⟩
theorem jA2 (a0:Value) (x:Rat) (a1:Value) (y:Rat) (w:World) (h0:IsQ w a0 x) (h1:IsQ w a1 y) (hl:zC6 x 4900) (hl2:zC6 y 4900) :
  Calls prog 180 #[a0,a1] w (RetQ (x-y) w):=by
 obtain ⟨u0,t0,rfl,s0,r0⟩:=h0;obtain ⟨A0,c0,rfl,_⟩:=id s0;obtain ⟨D0,e0,rfl,_⟩:=id r0;obtain ⟨u1,t1,rfl,s1,r1⟩:=h1;obtain ⟨A1,c1,rfl,_⟩:=id s1;obtain ⟨D1,e1,rfl,_⟩:=id r1;have HS:Hid (x + -y=x-y):=(Rat.sub_eq_add_neg x y).symm
 go_enter func180,ntmps180
 go_upto_region 1 with (fail)
 obtain ⟨wx,hwx,bb,B0,B1,BR0,hsz⟩:=zK6 w 83 83 83 #[.bool (ngB (x).num),.slice A0 (digs 4294967296 (x).num.natAbs).length c0,.slice D0 (digs 4294967296 (x).den).length e0] #[.bool (ngB (y).num),.slice A1 (digs 4294967296 (y).num.natAbs).length c1,.slice D1 (digs 4294967296 (y).den).length e1] #[.bool false,.slice none 0 0,.slice none 0 0];rw [hwx];clear hwx;have k0s:=s0.below bb;have k0d:=r0.below bb;have k0z:IsZ wx (.agg #[.bool (ngB (x).num),.slice A0 (digs 4294967296 (x).num.natAbs).length c0]) (x).num:=⟨_,rfl,k0s⟩;have k0:IsQ wx (.agg #[.bool (ngB (x).num),.slice A0 (digs 4294967296 (x).num.natAbs).length c0,.slice D0 (digs 4294967296 (x).den).length e0]) (x):=⟨_,_,rfl,k0s,k0d⟩;have k1s:=s1.below bb;have k1d:=r1.below bb;have k1z:IsZ wx (.agg #[.bool (ngB (y).num),.slice A1 (digs 4294967296 (y).num.natAbs).length c1]) (y).num:=⟨_,rfl,k1s⟩;have k1:IsQ wx (.agg #[.bool (ngB (y).num),.slice A1 (digs 4294967296 (y).num.natAbs).length c1,.slice D1 (digs 4294967296 (y).den).length e1]) (y):=⟨_,_,rfl,k1s,k1d⟩;have hsz0:=bb.size;have sB:=bb.size;refine flow 4 [Pd.eq (.agg #[.bool (ngB (x).num),.slice A0 (digs 4294967296 (x).num.natAbs).length c0,.slice D0 (digs 4294967296 (x).den).length e0]),Pd.eq (.agg #[.bool (ngB (y).num),.slice A1 (digs 4294967296 (y).num.natAbs).length c1,.slice D1 (digs 4294967296 (y).den).length e1]),pq (-y) wx.heap.size,pq (x-y) wx.heap.size] (by kernel_rfl) (by kernel_rfl) ?ob42 ?done42
 case ob42 =>
  refine zA (zC rfl (zB7 rfl) (zB9 rfl rfl) (fun w2 hb=>zF7 underlying83 rfl (by kernel_rfl) (B0.drew.below hb)) (fun _ _=>rfl)) ?_;refine zA (zC rfl (zB7 rfl) (zB9 rfl rfl) (fun w2 hb=>zF7 underlying83 rfl (by kernel_rfl) (B1.drew.below hb)) (fun _ _=>rfl)) ?_;refine zA (zF6 rfl func126 (by kernel_rfl) (zB7 rfl) (zB8 (j:=1) (by kernel_rfl) rfl rfl) (fun w2 u0 hb h0=>by obtain rfl:=h0;exact (yD9 _ y _ (k1.drew.below hb) (hl2.mono (by decide))).mono fun e w3 h=>RetQ.pd h hb.size)) ?_;refine zA (zD0 rfl func175 (by kernel_rfl) (zB7 rfl) (zB8 (j:=0) (by kernel_rfl) rfl rfl) (zB8 (j:=2) (by kernel_rfl) rfl rfl) (fun w2 u0 u1 hb h0 h1=>by obtain rfl:=h0;exact (HS.out ▸ jA1 _ x _ (-y) _ (k0.drew.below hb) h1.1 hl (qQ6 hl2)).mono fun e w3 h=>RetQ.pd h hb.size)) ?_
  trivial
 case done42 =>
  refine fun w11 hb11 v0 h0 v1 h1 v2 h2 v3 h3 b hbf => ?_;obtain rfl:=h0;obtain rfl:=h1;obtain ⟨q2,f2⟩:=h2;obtain ⟨q3,f3⟩:=h3;simp only [Act.put,zA0,zA2,zA1] at hbf;subst hbf;replace B0:=B0.below hb11;replace k0s:=k0s.below hb11;replace k0d:=k0d.below hb11;replace k0z:=k0z.below hb11;replace k0:=k0.below hb11;replace B1:=B1.below hb11;replace k1s:=k1s.below hb11;replace k1d:=k1d.below hb11;replace k1z:=k1z.below hb11;replace k1:=k1.below hb11;replace BR0:=BR0.below hb11;replace bb:=bb.trans (hb11.mono bb.size);have hsz11:=bb.size;have s_2:=sB;have s_3:=sB;obtain ⟨u3,t3,rfl,q3,d3⟩:=q3;obtain ⟨A9,c9,rfl,_⟩:=id q3;obtain ⟨D9,e9,rfl,_⟩:=id d3;refine zI (i:=4) (by kernel_rfl) rfl rfl rfl rfl rfl rfl (cells:=[.bool (ngB (x-y).num),.slice A9 (digs 4294967296 (x-y).num.natAbs).length c9,.slice D9 (digs 4294967296 (x-y).den).length e9]) rfl BR0 rfl (by kernel_rfl) (zI6 rfl rfl rfl) fun w9 hg9 B9 => ?_;have k9:=off q3 BR0 zE0 hg9;have d9:=off d3 BR0 zE0 hg9;have f9:=f3.mono (show w.heap.size<=_ from s_3);have bb9:=bb.trans ((Below.refl _ _).grown hg9 bb.size (fun g hg=>by injection hg with hg;omega));obtain ⟨C0,C1,C2,_,_,_⟩:=three B9;refine zF8 (by kernel_rfl) ?_;go_wp2;exact bodyPost_ret (v:=.agg #[.bool (ngB (x-y).num),.slice A9 (digs 4294967296 (x-y).num.natAbs).length c9,.slice D9 (digs 4294967296 (x-y).den).length e9]) (by simp [results,results180,go_sem,C0,C1,C2]) rfl ⟨_,rfl,⟨_,_,rfl,k9,d9⟩,f9,bb9⟩
theorem yF7 (a0:Value) (n:Int) (a1:Value) (d:Int) (w:World) (h0:IsZ w a0 n) (h1:IsZ w a1 d) (hl:zC4 n<=1000) (hl2:zC4 d<=1000) (hd:d≠0) :
    Calls prog 77 #[a0,a1] w (zU1 (Rat.divInt n d) 0 w):=by
  rcases hs1:ngB d with _ | _
  · obtain ⟨u0, rfl, s0⟩ := h0;obtain ⟨A0,c0,rfl,_⟩:=id s0;obtain ⟨u1,rfl,s1⟩:=h1;obtain ⟨A1,c1,rfl,_⟩:=id s1;have HDN : Hid (d.natAbs ≠ 0):=by show _ ≠ _; omega
    obtain ⟨U,hU⟩:∃ U,U=(mkRat n d.natAbs).num:=⟨_,rfl⟩;obtain ⟨L,hL⟩:∃ L,L=(mkRat n d.natAbs).den:=⟨_,rfl⟩;have HUL:Hid (zC4 U<=1000):=by show _<=_;rw [hU];exact (zS0 HDN.out hl hl2).1
    have HU:=hQ9 hU;have HL:=hQ9 hL;obtain ⟨Q,hQ⟩:∃ Q,Q=Rat.divInt n d:=⟨_,rfl⟩;have HQ0:Hid (Rat.divInt n d=Q):=hQ.symm;have HQ:Hid (Q=mkRat n d.natAbs):=by show _=_;rw [hQ];exact yB6 (by have:=zM6 hs1;omega)
    have HQN:Hid (Q.num=U):=by show _=_;rw [HQ.out,<- hU]
    have HQD:Hid (Q.den=L):=by show _=_;rw [HQ.out,<- hL]
    have HS:Hid ((1:Int)=zK5 d 0):=(qE4 (by have:=zM6 hs1;omega)).symm;clear hU hL hQ
    go_enter func77,ntmps77
    go_upto_region 1 with (fail)
    obtain ⟨wx,hwx,bb,B0,B1,BR0,hsz⟩:=zK6 w 60 60 83 #[.bool (ngB n),.slice A0 (digs 4294967296 (n).natAbs).length c0] #[.bool false,.slice A1 (digs 4294967296 (d).natAbs).length c1] #[.bool false,.slice none 0 0,.slice none 0 0];rw [hwx];clear hwx;have k0s:=s0.below bb;have k0:IsZ wx (.agg #[.bool (ngB n),.slice A0 (digs 4294967296 (n).natAbs).length c0]) (n):=zF2 k0s rfl rfl;have k1s:=s1.below bb;have k1:IsZ wx (.agg #[.bool false,.slice A1 (digs 4294967296 (d).natAbs).length c1]) (d):=zF2 k1s rfl hs1.symm;have hsz0:=bb.size;have sB:=bb.size;refine zC9 3 [Pd.eq (.agg #[.bool false,.slice A1 (digs 4294967296 (d).natAbs).length c1]),Pd.eq (.int .i64 1),Pd.eq (.bool false)] (by kernel_rfl) ?ob8 ?done8
    case ob8 =>
      refine zA (zC rfl (zB7 rfl) (zB9 rfl rfl) (fun w2 hb=>zF7 underlying60 rfl (by kernel_rfl) (B1.below hb)) (fun _ _=>rfl)) ?_;refine zA (zF6 rfl func74 (by kernel_rfl) (zB7 rfl) (zB8 (j:=0) (by kernel_rfl) rfl rfl) (fun w2 u0 hb h0=>by obtain rfl:=h0;exact (qB0 _ d 1 _ (k1.below hb) HS.out).mono fun e w3 h=>zD5.pd h)) ?_;refine zA (zE8 rfl (zB7 rfl) (zB8 (j:=1) (by kernel_rfl) rfl rfl) (zG2 _) (fun _ _ _ hx hy=>⟨.bool ((1:Int) == 0),by rw [hx,hy];exact zN3 _ _ _ _ _,congrArg Value.bool (by decide)⟩)) ?_
      trivial
    case done8 =>
      refine fun w1 hb1 v0 h0 v1 h1 v2 h2 b hbf => ?_;obtain rfl:=h0;obtain rfl:=h1;obtain rfl:=h2;simp only [Act.put,zA0,zA2,zA1] at hbf;subst hbf;replace B0:=B0.below hb1;replace k0s:=k0s.below hb1;replace k0:=k0.below hb1;replace B1:=B1.below hb1;replace k1s:=k1s.below hb1;replace k1:=k1.below hb1;replace BR0:=BR0.below hb1;replace bb:=bb.trans (hb1.mono bb.size);have hsz1:=bb.size;refine zD ?_;have sB:=bb.size;go_upto_region 3 with (fail);have lt1_2:=Blk.lt B0;have lt1_3:=Blk.lt B1;have lt1_4:=Blk.lt BR0;refine zC9 8 [Pd.eq (.agg #[.bool (ngB n),.slice A0 (digs 4294967296 (n).natAbs).length c0]),Pd.eq (.pointer (some ⟨w.heap.size+1,1,none⟩)),Pd.eq (.slice A1 (digs 4294967296 (d).natAbs).length c1),pzs (U) (L) w1.heap.size,pzs (U) (L) w1.heap.size,pz (U) w1.heap.size,ps .u64 (digs 4294967296 L) w1.heap.size,pn 60 #[.bool false,.slice none 0 0] w1.heap.size] (by kernel_rfl) ?ob9 ?done9
      case ob9 =>
        refine zA (zC rfl (zB7 rfl) (zB9 rfl rfl) (fun w2 hb=>zF7 underlying60 rfl (by kernel_rfl) (B0.below hb)) (fun _ _=>rfl)) ?_;refine zA (zC1 rfl (zB7 rfl) (zB9 rfl rfl) (fun _=>by kernel_rfl) (fun _=>rfl)) ?_;refine zA (zC rfl (zB7 rfl) (zB8 (j:=1) (by kernel_rfl) rfl rfl) (fun w2 hb=>zC3 underlying50 rfl ((B1.below hb).cell 1)) (fun _ _=>rfl)) ?_;refine zA (zD0 rfl func120 (by kernel_rfl) (zB7 rfl) (zB8 (j:=0) (by kernel_rfl) rfl rfl) (zB8 (j:=2) (by kernel_rfl) rfl rfl) (fun w2 u0 u1 hb h0 h1=>by obtain rfl:=h0;obtain rfl:=h1;exact (qF7 _ n _ d.natAbs U L _ (k0.below hb) (k1s.below hb) HDN.out (zB5 hl (by decide)) (zB5 hl2 (by decide)) HU.out HL.out).mono fun e w3 h=>zW.pd h hb.size)) ?_;refine zA (zC2 rfl (zB7 rfl) (zB8 (j:=3) (by kernel_rfl) rfl rfl) (fun _ _ h=>h)) ?_;refine zA (zI2 rfl (zB7 rfl) (zB8 (j:=4) (by kernel_rfl) rfl rfl) (fun w2 u hu=>by obtain ⟨v,u,rfl,q1,q2,q3,q4⟩:=hu;exact ⟨v,rfl,q1,q3⟩)) ?_;refine zA (zI2 rfl (zB7 rfl) (zB8 (j:=4) (by kernel_rfl) rfl rfl) (fun w2 u hu=>by obtain ⟨v,u,rfl,q1,q2,q3,q4⟩:=hu;exact ⟨u,rfl,q2,q4⟩)) ?_;refine zA (zN2 (z:=.agg #[.bool false,.slice none 0 0]) rfl rfl (fun _=>by kernel_rfl) (fun _ _ hB h=>⟨_,rfl,hB,h⟩)) ?_
        trivial
      case done9 =>
        refine fun w2 hb2 v0 h0 v1 h1 v2 h2 v3 h3 v4 h4 v5 h5 v6 h6 v7 h7 d7 b hbf => ?_;obtain rfl:=h0;obtain rfl:=h1;obtain rfl:=h2;clear h3;clear h4;obtain ⟨q5,f5⟩:=h5;obtain ⟨q6,f6⟩:=h6;obtain ⟨g9_7,rfl,hg7,B7⟩:=h7;simp only [Act.put,zA0,zA2,zA1] at hbf;subst hbf;replace B0:=B0.below hb2;replace k0s:=k0s.below hb2;replace k0:=k0.below hb2;replace B1:=B1.below hb2;replace k1s:=k1s.below hb2;replace k1:=k1.below hb2;replace BR0:=BR0.below hb2;replace bb:=bb.trans (hb2.mono bb.size);have hsz2:=bb.size;have s_5:=sB;have s_6:=sB;obtain ⟨A18,c18,rfl,_⟩:=id q6;have n18:=q6;have n18f:=f6;have n18z_:=s_6;have BA6:=B7;obtain ⟨u5,rfl,q5⟩:=q5;obtain ⟨A6,c6,rfl,_⟩:=id q5;refine zI5 (i:=8) rfl rfl rfl rfl rfl rfl (cells:=[.bool (ngB U),.slice A6 (digs 4294967296 (U).natAbs).length c6]) rfl BA6 rfl (by kernel_rfl) (zG6 rfl rfl) fun w3 hg3 BN3 => ?_;replace q5:=off q5 BA6 no_ints2 hg3;replace n18:=off n18 BA6 no_ints2 hg3;replace k0s:=off k0s BA6 no_ints2 hg3;replace k0:IsZ w3 (.agg #[.bool (ngB n),.slice A0 (digs 4294967296 (n).natAbs).length c0]) (n):=⟨_,rfl,k0s⟩;replace B0:=B0.grown hg3 (by omega);replace k1s:=off k1s BA6 no_ints2 hg3;replace k1:IsZ w3 (.agg #[.bool false,.slice A1 (digs 4294967296 (d).natAbs).length c1]) (d):=zF2 k1s rfl hs1.symm;replace B1:=B1.grown hg3 (by omega);replace BR0:=BR0.grown hg3 (by omega);replace bb:=bb.trans ((Below.refl _ _).grown hg3 bb.size (fun g hg=>by injection hg with hg;omega));have hsz3:=bb.size;have B6:Blk w3 (g9_7) _ _:=BN3;have k6s:=q5;have k6:IsZ w3 (.agg #[.bool (ngB U),.slice A6 (digs 4294967296 (U).natAbs).length c6]) (U):=⟨_,rfl,k6s⟩;refine zQ9 (i:=9) (.slice A18 (digs 4294967296 L).length c18) rfl rfl rfl rfl rfl fun b hbf => ?_;simp only [Act.put,zA0,zA2,zA1] at hbf;subst hbf;refine zD ?_;have f6_:=(f5 _ _ rfl).mono s_5;have sB:=bb.size;go_upto_region 4 with (fail);refine zC9 2 [Pd.eq (.pointer (some ⟨w.heap.size+1,0,none⟩)),Pd.eq (.bool false)] (by kernel_rfl) ?ob10 ?done10
        case ob10 =>
          refine zA (zC1 rfl (zB7 rfl) (zB9 rfl rfl) (fun _=>by kernel_rfl) (fun _=>rfl)) ?_;refine zA (zC rfl (zB7 rfl) (zB8 (j:=0) (by kernel_rfl) rfl rfl) (fun w2 hb=>zC3 underlying4 rfl ((B1.below hb).cell 0)) (fun _ _=>rfl)) ?_
          trivial
        case done10 =>
          refine fun w4 hb4 v0 h0 v1 h1 b hbf => ?_;obtain rfl:=h0;obtain rfl:=h1;simp only [Act.put,zA0,zA2,zA1] at hbf;subst hbf;replace B0:=B0.below hb4;replace k0s:=k0s.below hb4;replace k0:=k0.below hb4;replace B1:=B1.below hb4;replace k1s:=k1s.below hb4;replace k1:=k1.below hb4;replace BR0:=BR0.below hb4;replace B6:=B6.below hb4;replace k6s:=k6s.below hb4;replace k6:=k6.below hb4;replace n18:=n18.below hb4;replace bb:=bb.trans (hb4.mono bb.size);have hsz4:=bb.size;refine zD ?_;have sB:=bb.size;go_upto_region 6 with (fail);refine zC9 3 [Pd.eq (.agg #[.bool (ngB U),.slice A6 (digs 4294967296 (U).natAbs).length c6]),Pd.eq (.slice A18 (digs 4294967296 L).length c18),Pd.eq (.agg #[.bool (ngB U),.slice A6 (digs 4294967296 (U).natAbs).length c6,.slice A18 (digs 4294967296 L).length c18])] (by kernel_rfl) ?ob11 ?done11
          case ob11 =>
            refine zA (zC rfl (zB7 rfl) (zB9 rfl rfl) (fun w2 hb=>zF7 underlying60 rfl (by kernel_rfl) (B6.below hb)) (fun _ _=>rfl)) ?_;refine zA (zC2 rfl (zB7 rfl) (zB9 rfl rfl) (fun _ _ h=>h)) ?_;refine zA (zL rfl (zB7 rfl) (zB8 (j:=0) (by kernel_rfl) rfl rfl) (zB8 (j:=1) (by kernel_rfl) rfl rfl) (fun w2 u v hb hu hv=>by obtain rfl:=hu;obtain rfl:=hv;exact ⟨.agg #[.bool (ngB U),.slice A6 (digs 4294967296 (U).natAbs).length c6,.slice A18 (digs 4294967296 L).length c18],by kernel_rfl,rfl⟩)) ?_
            trivial
          case done11 =>
            refine fun w5 hb5 v0 h0 v1 h1 v2 h2 b hbf => ?_;obtain rfl:=h0;obtain rfl:=h1;obtain rfl:=h2;simp only [Act.put,zA0,zA2,zA1] at hbf;subst hbf;replace B0:=B0.below hb5;replace k0s:=k0s.below hb5;replace k0:=k0.below hb5;replace B1:=B1.below hb5;replace k1s:=k1s.below hb5;replace k1:=k1.below hb5;replace BR0:=BR0.below hb5;replace B6:=B6.below hb5;replace k6s:=k6s.below hb5;replace k6:=k6.below hb5;replace n18:=n18.below hb5;replace bb:=bb.trans (hb5.mono bb.size);have hsz5:=bb.size;refine zI5 (i:=3) rfl rfl rfl rfl rfl rfl (cells:=[.bool (ngB U),.slice A6 (digs 4294967296 (U).natAbs).length c6,.slice A18 (digs 4294967296 L).length c18]) rfl BR0 rfl (by kernel_rfl) (zI6 rfl rfl rfl) fun w9 hg9 B9 => ?_;have k9:=off k6s BR0 zE0 hg9;have d9:=off n18 BR0 zE0 hg9;have bb9:=bb.trans ((Below.refl _ _).grown hg9 bb.size (fun g hg=>by injection hg with hg;omega));obtain ⟨C0,C1,C2,_,_,_⟩:=three B9;refine zQ9 (i:=4) (.int .i64 0) rfl rfl rfl rfl rfl fun b hbf => ?_;simp only [Act.put,zA0,zA2,zA1] at hbf;subst hbf;refine zD ?_;go_wp2;rw [HQ0.out];exact bodyPost_ret (v:=.tuple #[.agg #[.bool (ngB U),.slice A6 (digs 4294967296 (U).natAbs).length c6,.slice A18 (digs 4294967296 L).length c18],.int .i64 0]) (by simp [results,results77,go_sem,C0,C1,C2]) rfl ⟨_,rfl,zV8 k9 d9 (by rw [HQN.out]) (by rw [HQN.out]) HQD.out,zM1 f6_ (n18f.mono n18z_),bb9⟩
  · obtain ⟨u0, rfl, s0⟩ := h0;obtain ⟨A0,c0,rfl,_⟩:=id s0;obtain ⟨u1,rfl,s1⟩:=h1;obtain ⟨A1,c1,rfl,_⟩:=id s1;have HDN : Hid (d.natAbs ≠ 0):=by show _ ≠ _; omega
    obtain ⟨U,hU⟩:∃ U,U=(mkRat n d.natAbs).num:=⟨_,rfl⟩;obtain ⟨L,hL⟩:∃ L,L=(mkRat n d.natAbs).den:=⟨_,rfl⟩;have HUL:Hid (zC4 U<=1000):=by show _<=_;rw [hU];exact (zS0 HDN.out hl hl2).1
    have HU:=hQ9 hU;have HL:=hQ9 hL;obtain ⟨Q,hQ⟩:∃ Q,Q=Rat.divInt n d:=⟨_,rfl⟩;have HQ0:Hid (Rat.divInt n d=Q):=hQ.symm;have HQ:Hid (Q = -mkRat n d.natAbs):=by show _=_;rw [hQ,yB5 (zM hs1)];exact yX4 n d.natAbs HDN.out
    have HQN:Hid (Q.num = -U):=by show _=_;rw [HQ.out,(zV7 _).1,<- hU]
    have HQD:Hid (Q.den=L):=by show _=_;rw [HQ.out,(zV7 _).2,<- hL]
    have HS:Hid ((-1:Int)=zK5 d 0):=(qE3 (zM hs1)).symm;clear hU hL hQ
    go_enter func77,ntmps77
    go_upto_region 1 with (fail)
    obtain ⟨wx,hwx,bb,B0,B1,BR0,hsz⟩:=zK6 w 60 60 83 #[.bool (ngB n),.slice A0 (digs 4294967296 (n).natAbs).length c0] #[.bool true,.slice A1 (digs 4294967296 (d).natAbs).length c1] #[.bool false,.slice none 0 0,.slice none 0 0];rw [hwx];clear hwx;have k0s:=s0.below bb;have k0:IsZ wx (.agg #[.bool (ngB n),.slice A0 (digs 4294967296 (n).natAbs).length c0]) (n):=zF2 k0s rfl rfl;have k1s:=s1.below bb;have k1:IsZ wx (.agg #[.bool true,.slice A1 (digs 4294967296 (d).natAbs).length c1]) (d):=zF2 k1s rfl hs1.symm;have hsz0:=bb.size;have sB:=bb.size;refine zC9 3 [Pd.eq (.agg #[.bool true,.slice A1 (digs 4294967296 (d).natAbs).length c1]),Pd.eq (.int .i64 (-1)),Pd.eq (.bool false)] (by kernel_rfl) ?ob12 ?done12
    case ob12 =>
      refine zA (zC rfl (zB7 rfl) (zB9 rfl rfl) (fun w2 hb=>zF7 underlying60 rfl (by kernel_rfl) (B1.below hb)) (fun _ _=>rfl)) ?_;refine zA (zF6 rfl func74 (by kernel_rfl) (zB7 rfl) (zB8 (j:=0) (by kernel_rfl) rfl rfl) (fun w2 u0 hb h0=>by obtain rfl:=h0;exact (qB0 _ d (-1) _ (k1.below hb) HS.out).mono fun e w3 h=>zD5.pd h)) ?_;refine zA (zE8 rfl (zB7 rfl) (zB8 (j:=1) (by kernel_rfl) rfl rfl) (zG2 _) (fun _ _ _ hx hy=>⟨.bool ((-1:Int) == 0),by rw [hx,hy];exact zN3 _ _ _ _ _,congrArg Value.bool (by decide)⟩)) ?_
      trivial
    case done12 =>
      refine fun w1 hb1 v0 h0 v1 h1 v2 h2 b hbf => ?_;obtain rfl:=h0;obtain rfl:=h1;obtain rfl:=h2;simp only [Act.put,zA0,zA2,zA1] at hbf;subst hbf;replace B0:=B0.below hb1;replace k0s:=k0s.below hb1;replace k0:=k0.below hb1;replace B1:=B1.below hb1;replace k1s:=k1s.below hb1;replace k1:=k1.below hb1;replace BR0:=BR0.below hb1;replace bb:=bb.trans (hb1.mono bb.size);have hsz1:=bb.size;refine zD ?_;have sB:=bb.size;go_upto_region 3 with (fail);have lt1_2:=Blk.lt B0;have lt1_3:=Blk.lt B1;have lt1_4:=Blk.lt BR0;refine zC9 8 [Pd.eq (.agg #[.bool (ngB n),.slice A0 (digs 4294967296 (n).natAbs).length c0]),Pd.eq (.pointer (some ⟨w.heap.size+1,1,none⟩)),Pd.eq (.slice A1 (digs 4294967296 (d).natAbs).length c1),pzs (U) (L) w1.heap.size,pzs (U) (L) w1.heap.size,pz (U) w1.heap.size,ps .u64 (digs 4294967296 L) w1.heap.size,pn 60 #[.bool false,.slice none 0 0] w1.heap.size] (by kernel_rfl) ?ob13 ?done13
      case ob13 =>
        refine zA (zC rfl (zB7 rfl) (zB9 rfl rfl) (fun w2 hb=>zF7 underlying60 rfl (by kernel_rfl) (B0.below hb)) (fun _ _=>rfl)) ?_;refine zA (zC1 rfl (zB7 rfl) (zB9 rfl rfl) (fun _=>by kernel_rfl) (fun _=>rfl)) ?_;refine zA (zC rfl (zB7 rfl) (zB8 (j:=1) (by kernel_rfl) rfl rfl) (fun w2 hb=>zC3 underlying50 rfl ((B1.below hb).cell 1)) (fun _ _=>rfl)) ?_;refine zA (zD0 rfl func120 (by kernel_rfl) (zB7 rfl) (zB8 (j:=0) (by kernel_rfl) rfl rfl) (zB8 (j:=2) (by kernel_rfl) rfl rfl) (fun w2 u0 u1 hb h0 h1=>by obtain rfl:=h0;obtain rfl:=h1;exact (qF7 _ n _ d.natAbs U L _ (k0.below hb) (k1s.below hb) HDN.out (zB5 hl (by decide)) (zB5 hl2 (by decide)) HU.out HL.out).mono fun e w3 h=>zW.pd h hb.size)) ?_;refine zA (zC2 rfl (zB7 rfl) (zB8 (j:=3) (by kernel_rfl) rfl rfl) (fun _ _ h=>h)) ?_;refine zA (zI2 rfl (zB7 rfl) (zB8 (j:=4) (by kernel_rfl) rfl rfl) (fun w2 u hu=>by obtain ⟨v,u,rfl,q1,q2,q3,q4⟩:=hu;exact ⟨v,rfl,q1,q3⟩)) ?_;refine zA (zI2 rfl (zB7 rfl) (zB8 (j:=4) (by kernel_rfl) rfl rfl) (fun w2 u hu=>by obtain ⟨v,u,rfl,q1,q2,q3,q4⟩:=hu;exact ⟨u,rfl,q2,q4⟩)) ?_;refine zA (zN2 (z:=.agg #[.bool false,.slice none 0 0]) rfl rfl (fun _=>by kernel_rfl) (fun _ _ hB h=>⟨_,rfl,hB,h⟩)) ?_
        trivial
      case done13 =>
        refine fun w2 hb2 v0 h0 v1 h1 v2 h2 v3 h3 v4 h4 v5 h5 v6 h6 v7 h7 d7 b hbf => ?_;obtain rfl:=h0;obtain rfl:=h1;obtain rfl:=h2;clear h3;clear h4;obtain ⟨q5,f5⟩:=h5;obtain ⟨q6,f6⟩:=h6;obtain ⟨g13_7,rfl,hg7,B7⟩:=h7;simp only [Act.put,zA0,zA2,zA1] at hbf;subst hbf;replace B0:=B0.below hb2;replace k0s:=k0s.below hb2;replace k0:=k0.below hb2;replace B1:=B1.below hb2;replace k1s:=k1s.below hb2;replace k1:=k1.below hb2;replace BR0:=BR0.below hb2;replace bb:=bb.trans (hb2.mono bb.size);have hsz2:=bb.size;have s_5:=sB;have s_6:=sB;obtain ⟨A18,c18,rfl,_⟩:=id q6;have n18:=q6;have n18f:=f6;have n18z_:=s_6;have BA6:=B7;obtain ⟨u5,rfl,q5⟩:=q5;obtain ⟨A6,c6,rfl,_⟩:=id q5;refine zI5 (i:=8) rfl rfl rfl rfl rfl rfl (cells:=[.bool (ngB U),.slice A6 (digs 4294967296 (U).natAbs).length c6]) rfl BA6 rfl (by kernel_rfl) (zG6 rfl rfl) fun w3 hg3 BN3 => ?_;replace q5:=off q5 BA6 no_ints2 hg3;replace n18:=off n18 BA6 no_ints2 hg3;replace k0s:=off k0s BA6 no_ints2 hg3;replace k0:IsZ w3 (.agg #[.bool (ngB n),.slice A0 (digs 4294967296 (n).natAbs).length c0]) (n):=⟨_,rfl,k0s⟩;replace B0:=B0.grown hg3 (by omega);replace k1s:=off k1s BA6 no_ints2 hg3;replace k1:IsZ w3 (.agg #[.bool true,.slice A1 (digs 4294967296 (d).natAbs).length c1]) (d):=zF2 k1s rfl hs1.symm;replace B1:=B1.grown hg3 (by omega);replace BR0:=BR0.grown hg3 (by omega);replace bb:=bb.trans ((Below.refl _ _).grown hg3 bb.size (fun g hg=>by injection hg with hg;omega));have hsz3:=bb.size;have B6:Blk w3 (g13_7) _ _:=BN3;have k6s:=q5;have k6:IsZ w3 (.agg #[.bool (ngB U),.slice A6 (digs 4294967296 (U).natAbs).length c6]) (U):=⟨_,rfl,k6s⟩;refine zQ9 (i:=9) (.slice A18 (digs 4294967296 L).length c18) rfl rfl rfl rfl rfl fun b hbf => ?_;simp only [Act.put,zA0,zA2,zA1] at hbf;subst hbf;refine zD ?_;have f6_:=(f5 _ _ rfl).mono s_5;have sB:=bb.size;go_upto_region 4 with (fail);refine zC9 2 [Pd.eq (.pointer (some ⟨w.heap.size+1,0,none⟩)),Pd.eq (.bool true)] (by kernel_rfl) ?ob14 ?done14
        case ob14 =>
          refine zA (zC1 rfl (zB7 rfl) (zB9 rfl rfl) (fun _=>by kernel_rfl) (fun _=>rfl)) ?_;refine zA (zC rfl (zB7 rfl) (zB8 (j:=0) (by kernel_rfl) rfl rfl) (fun w2 hb=>zC3 underlying4 rfl ((B1.below hb).cell 0)) (fun _ _=>rfl)) ?_
          trivial
        case done14 =>
          refine fun w4 hb4 v0 h0 v1 h1 b hbf => ?_;obtain rfl:=h0;obtain rfl:=h1;simp only [Act.put,zA0,zA2,zA1] at hbf;subst hbf;replace B0:=B0.below hb4;replace k0s:=k0s.below hb4;replace k0:=k0.below hb4;replace B1:=B1.below hb4;replace k1s:=k1s.below hb4;replace k1:=k1.below hb4;replace BR0:=BR0.below hb4;replace B6:=B6.below hb4;replace k6s:=k6s.below hb4;replace k6:=k6.below hb4;replace n18:=n18.below hb4;replace bb:=bb.trans (hb4.mono bb.size);have hsz4:=bb.size;refine zD ?_;have sB:=bb.size;go_upto_region 5 with (fail);refine zC9 2 [Pd.eq (.agg #[.bool (ngB U),.slice A6 (digs 4294967296 (U).natAbs).length c6]),pz ((-U)) w4.heap.size] (by kernel_rfl) ?ob15 ?done15
          case ob15 =>
            refine zA (zC rfl (zB7 rfl) (zB9 rfl rfl) (fun w2 hb=>zF7 underlying60 rfl (by kernel_rfl) (B6.below hb)) (fun _ _=>rfl)) ?_;refine zA (zF6 rfl func121 (by kernel_rfl) (zB7 rfl) (zB8 (j:=0) (by kernel_rfl) rfl rfl) (fun w2 u0 hb h0=>by obtain rfl:=h0;exact (yC _ U _ (k6.below hb) (zB5 HUL.out (by decide))).mono fun e w3 h=>zF.pd h hb.size)) ?_
            trivial
          case done15 =>
            refine fun w5 hb5 v0 h0 v1 h1 b hbf => ?_;obtain rfl:=h0;obtain ⟨q1,f1⟩:=h1;simp only [Act.put,zA0,zA2,zA1] at hbf;subst hbf;replace B0:=B0.below hb5;replace k0s:=k0s.below hb5;replace k0:=k0.below hb5;replace B1:=B1.below hb5;replace k1s:=k1s.below hb5;replace k1:=k1.below hb5;replace BR0:=BR0.below hb5;replace B6:=B6.below hb5;replace k6s:=k6s.below hb5;replace k6:=k6.below hb5;replace n18:=n18.below hb5;replace bb:=bb.trans (hb5.mono bb.size);have hsz5:=bb.size;have s_1:=sB;obtain ⟨u1,rfl,q1⟩:=q1;obtain ⟨A6n,c6n,rfl,_⟩:=id q1;refine zI5 (i:=2) rfl rfl rfl rfl rfl rfl (cells:=[.bool (ngB (-U)),.slice A6n (digs 4294967296 ((-U)).natAbs).length c6n]) rfl B6 rfl (by kernel_rfl) (zG6 rfl rfl) fun w6 hg6 BN6 => ?_;replace q1:=off q1 B6 no_ints2 hg6;replace n18:=off n18 B6 no_ints2 hg6;replace k0s:=off k0s B6 no_ints2 hg6;replace k0:IsZ w6 (.agg #[.bool (ngB n),.slice A0 (digs 4294967296 (n).natAbs).length c0]) (n):=⟨_,rfl,k0s⟩;replace B0:=B0.grown hg6 (by omega);replace k1s:=off k1s B6 no_ints2 hg6;replace k1:IsZ w6 (.agg #[.bool true,.slice A1 (digs 4294967296 (d).natAbs).length c1]) (d):=zF2 k1s rfl hs1.symm;replace B1:=B1.grown hg6 (by omega);replace BR0:=BR0.grown hg6 (by omega);replace bb:=bb.trans ((Below.refl _ _).grown hg6 bb.size (fun g hg=>by injection hg with hg;omega));have hsz6:=bb.size;have B6n:Blk w6 (g13_7) _ _:=BN6;have k6ns:=q1;have k6n:IsZ w6 (.agg #[.bool (ngB (-U)),.slice A6n (digs 4294967296 ((-U)).natAbs).length c6n]) ((-U)):=⟨_,rfl,k6ns⟩;refine zD ?_;have f6n_:=(f1 _ _ rfl).mono s_1;have sB:=bb.size;go_upto_region 6 with (fail);refine zC9 3 [Pd.eq (.agg #[.bool (ngB (-U)),.slice A6n (digs 4294967296 ((-U)).natAbs).length c6n]),Pd.eq (.slice A18 (digs 4294967296 L).length c18),Pd.eq (.agg #[.bool (ngB (-U)),.slice A6n (digs 4294967296 ((-U)).natAbs).length c6n,.slice A18 (digs 4294967296 L).length c18])] (by kernel_rfl) ?ob16 ?done16
            case ob16 =>
              refine zA (zC rfl (zB7 rfl) (zB9 rfl rfl) (fun w2 hb=>zF7 underlying60 rfl (by kernel_rfl) (B6n.below hb)) (fun _ _=>rfl)) ?_;refine zA (zC2 rfl (zB7 rfl) (zB9 rfl rfl) (fun _ _ h=>h)) ?_;refine zA (zL rfl (zB7 rfl) (zB8 (j:=0) (by kernel_rfl) rfl rfl) (zB8 (j:=1) (by kernel_rfl) rfl rfl) (fun w2 u v hb hu hv=>by obtain rfl:=hu;obtain rfl:=hv;exact ⟨.agg #[.bool (ngB (-U)),.slice A6n (digs 4294967296 ((-U)).natAbs).length c6n,.slice A18 (digs 4294967296 L).length c18],by kernel_rfl,rfl⟩)) ?_
              trivial
            case done16 =>
              refine fun w7 hb7 v0 h0 v1 h1 v2 h2 b hbf => ?_;obtain rfl:=h0;obtain rfl:=h1;obtain rfl:=h2;simp only [Act.put,zA0,zA2,zA1] at hbf;subst hbf;replace B0:=B0.below hb7;replace k0s:=k0s.below hb7;replace k0:=k0.below hb7;replace B1:=B1.below hb7;replace k1s:=k1s.below hb7;replace k1:=k1.below hb7;replace BR0:=BR0.below hb7;replace B6n:=B6n.below hb7;replace k6ns:=k6ns.below hb7;replace k6n:=k6n.below hb7;replace n18:=n18.below hb7;replace bb:=bb.trans (hb7.mono bb.size);have hsz7:=bb.size;refine zI5 (i:=3) rfl rfl rfl rfl rfl rfl (cells:=[.bool (ngB (-U)),.slice A6n (digs 4294967296 ((-U)).natAbs).length c6n,.slice A18 (digs 4294967296 L).length c18]) rfl BR0 rfl (by kernel_rfl) (zI6 rfl rfl rfl) fun w9 hg9 B9 => ?_;have k9:=off k6ns BR0 zE0 hg9;have d9:=off n18 BR0 zE0 hg9;have bb9:=bb.trans ((Below.refl _ _).grown hg9 bb.size (fun g hg=>by injection hg with hg;omega));obtain ⟨C0,C1,C2,_,_,_⟩:=three B9;refine zQ9 (i:=4) (.int .i64 0) rfl rfl rfl rfl rfl fun b hbf => ?_;simp only [Act.put,zA0,zA2,zA1] at hbf;subst hbf;refine zD ?_;go_wp2;rw [HQ0.out];exact bodyPost_ret (v:=.tuple #[.agg #[.bool (ngB (-U)),.slice A6n (digs 4294967296 ((-U)).natAbs).length c6n,.slice A18 (digs 4294967296 L).length c18],.int .i64 0]) (by simp [results,results77,go_sem,C0,C1,C2]) rfl ⟨_,rfl,zV8 k9 d9 (by rw [HQN.out]) (by rw [HQN.out]) HQD.out,zM1 f6n_ (n18f.mono n18z_),bb9⟩
theorem jA3 (a0:Value) (n:Int) (a1:Value) (d:Int) (w:World) (h0:IsZ w a0 n) (h1:IsZ w a1 d) (hl:zC4 n<=1000) (hl2:zC4 d<=1000) (hd:d≠0):Calls prog 77 #[a0,a1] w (qE8 (Rat.divInt n d) 0 w) :=
 (yF7 a0 n a1 d w h0 h1 hl hl2 hd).mono fun _ _ h=>h.e
theorem qT0 (n:Int) (w:World) (h1 : -9223372036854775808<=n) (h2:n<=9223372036854775807) :
  Calls prog 41 #[.int .i64 n] w (RetQ (n:Rat) w):=by
 obtain ⟨Q,hQ⟩:∃ Q,Q=(n:Rat):=⟨_,rfl⟩;have HQ0:Hid ((n:Rat)=Q):=hQ.symm;have HQN:Hid (Q.num=n):=by show _=_;rw [hQ];exact Rat.num_intCast n
 have HQD:Hid (Q.den=1):=by show _=_;rw [hQ];exact Rat.den_intCast n
 clear hQ
 go_enter func41,ntmps41
 go_upto_region 1 with (fail)
 obtain ⟨wx,hwx,bb,BR0,hsz⟩:=zN4 w 83 #[.bool false,.slice none 0 0,.slice none 0 0];rw [hwx];clear hwx;have hsz0:=bb.size;have sB:=bb.size;refine zC9 4 [Pd.eq (.int .i64 n),pz ((Q).num) wx.heap.size,ps .u64 (digs 4294967296 (Q).den) wx.heap.size,pq (Q) wx.heap.size] (by kernel_rfl) ?ob19 ?done19
 case ob19 =>
  refine zA (zC2 rfl (zB7 rfl) (zB9 rfl rfl) (fun _ _ h=>h)) ?_;refine zA (zF6 rfl func82 (by kernel_rfl) (zB7 rfl) (zB8 (j:=0) (by kernel_rfl) rfl rfl) (fun w2 u0 hb h0=>by obtain rfl:=h0;exact (qF1 n _ h1 h2).mono fun e w3 h=>zF.pd (zF.to h HQN.out.symm) hb.size)) ?_;refine zA (zF6 rfl func53 (by kernel_rfl) (zB7 rfl) (zG2 _) (fun w2 u0 hb h0=>by obtain rfl:=h0;exact (qD2 1 1 _ rfl (by omega)).mono fun e w3 h=>zD7.pd (zD7.to h (congrArg (digs 4294967296) HQD.out.symm)) hb.size)) ?_;refine zA (zL rfl (zB7 rfl) (zB8 (j:=1) (by kernel_rfl) rfl rfl) (zB8 (j:=2) (by kernel_rfl) rfl rfl) (fun w2 u v hb hu hv=>by obtain ⟨u7,rfl,hu7⟩:=hu.1;obtain ⟨A7,c7,rfl,_⟩:=id hu7;obtain ⟨A8,c8,rfl,_⟩:=id hv.1;exact ⟨.agg #[.bool (ngB (Q).num),.slice A7 (digs 4294967296 (Q).num.natAbs).length c7,.slice A8 (digs 4294967296 (Q).den).length c8],by kernel_rfl,⟨⟨_,_,rfl,hu7,hv.1⟩,zM1 (hu.2 _ _ rfl) hv.2⟩⟩)) ?_
  trivial
 case done19 =>
  refine fun w1 hb1 v0 h0 v1 h1 v2 h2 v3 h3 b hbf => ?_;obtain rfl:=h0;obtain ⟨q1,f1⟩:=h1;obtain ⟨q2,f2⟩:=h2;obtain ⟨q3,f3⟩:=h3;simp only [Act.put,zA0,zA2,zA1] at hbf;subst hbf;replace BR0:=BR0.below hb1;replace bb:=bb.trans (hb1.mono bb.size);have hsz1:=bb.size;have s_1:=sB;have s_2:=sB;have s_3:=sB;obtain ⟨u3,t3,rfl,q3,d3⟩:=q3;obtain ⟨A9,c9,rfl,_⟩:=id q3;obtain ⟨D9,e9,rfl,_⟩:=id d3;refine zI5 (i:=4) rfl rfl rfl rfl rfl rfl (cells:=[.bool (ngB (Q).num),.slice A9 (digs 4294967296 (Q).num.natAbs).length c9,.slice D9 (digs 4294967296 (Q).den).length e9]) rfl BR0 rfl (by kernel_rfl) (zI6 rfl rfl rfl) fun w9 hg9 B9 => ?_;have k9:=off q3 BR0 zE0 hg9;have d9:=off d3 BR0 zE0 hg9;have f9:=f3.mono (show w.heap.size<=_ from s_3);have bb9:=bb.trans ((Below.refl _ _).grown hg9 bb.size (fun g hg=>by injection hg with hg;omega));obtain ⟨C0,C1,C2,_,_,_⟩:=three B9;refine zD ?_;go_wp2;rw [HQ0.out];exact bodyPost_ret (v:=.agg #[.bool (ngB (Q).num),.slice A9 (digs 4294967296 (Q).num.natAbs).length c9,.slice D9 (digs 4294967296 (Q).den).length e9]) (by simp [results,results41,go_sem,C0,C1,C2]) rfl ⟨_,rfl,⟨_,_,rfl,k9,d9⟩,f9,bb9⟩
theorem jA4 (n d:Int) (w:World) (hn : -9223372036854775808<=n/\n<=9223372036854775807) (hd : -9223372036854775808<=d/\d<=9223372036854775807) (h0_:d≠0) :
  Calls prog 42 #[.int .i64 n,.int .i64 d] w (zU1 (Rat.divInt n d) 0 w):=by
 have HLN:Hid (zC4 n<=1000):=zB5 (dig32 (by omega)) (by decide);have HLD:Hid (zC4 d<=1000):=zB5 (dig32 (by omega)) (by decide);obtain ⟨Q,hQ⟩:∃ Q,Q=Rat.divInt n d:=⟨_,rfl⟩;have HQ0:Hid (Rat.divInt n d=Q):=hQ.symm;clear hQ
 go_enter func42,ntmps42
 go_upto_region 1 with (fail)
 obtain ⟨wx,hwx,bb,BR0,hsz⟩:=zN4 w 83 #[.bool false,.slice none 0 0,.slice none 0 0];rw [hwx];clear hwx;have hsz0:=bb.size;have sB:=bb.size;refine zC9 7 [Pd.eq (.int .i64 n),pz (n) wx.heap.size,Pd.eq (.int .i64 d),pz (d) wx.heap.size,pqf (Q) 0 wx.heap.size,pq (Q) wx.heap.size,Pd.eq (.int .i64 0)] (by kernel_rfl) ?ob20 ?done20
 case ob20 =>
  refine zA (zC2 rfl (zB7 rfl) (zB9 rfl rfl) (fun _ _ h=>h)) ?_;refine zA (zF6 rfl func82 (by kernel_rfl) (zB7 rfl) (zB8 (j:=0) (by kernel_rfl) rfl rfl) (fun w2 u0 hb h0=>by obtain rfl:=h0;exact (qF1 n _ hn.1 hn.2).mono fun e w3 h=>zF.pd h hb.size)) ?_;refine zA (zC2 rfl (zB7 rfl) (zB9 rfl rfl) (fun _ _ h=>h)) ?_;refine zA (zF6 rfl func82 (by kernel_rfl) (zB7 rfl) (zB8 (j:=2) (by kernel_rfl) rfl rfl) (fun w2 u0 hb h0=>by obtain rfl:=h0;exact (qF1 d _ hd.1 hd.2).mono fun e w3 h=>zF.pd h hb.size)) ?_;refine zA (zD0 rfl func77 (by kernel_rfl) (zB7 rfl) (zB8 (j:=1) (by kernel_rfl) rfl rfl) (zB8 (j:=3) (by kernel_rfl) rfl rfl) (fun w2 u0 u1 hb h0 h1=>by exact (HQ0.out ▸ yF7 _ n _ d _ h0.1 h1.1 HLN.out HLD.out h0_).mono fun e w3 h=>zU1.pd h hb.size)) ?_;refine zA (zI2 rfl (zB7 rfl) (zB8 (j:=4) (by kernel_rfl) rfl rfl) (fun w2 u hu=>by obtain ⟨v,rfl,q1,q2⟩:=hu;exact ⟨v,rfl,q1,q2⟩)) ?_;refine zA (zI2 rfl (zB7 rfl) (zB8 (j:=4) (by kernel_rfl) rfl rfl) (fun w2 u hu=>by obtain ⟨v,rfl,q1,q2⟩:=hu;exact ⟨_,rfl,rfl⟩)) ?_
  trivial
 case done20 =>
  refine fun w1 hb1 v0 h0 v1 h1 v2 h2 v3 h3 v4 h4 v5 h5 v6 h6 b hbf => ?_;obtain rfl:=h0;obtain rfl:=h2;obtain rfl:=h6;obtain ⟨q1,f1⟩:=h1;obtain ⟨q3,f3⟩:=h3;clear h4;obtain ⟨q5,f5⟩:=h5;simp only [Act.put,zA0,zA2,zA1] at hbf;subst hbf;replace BR0:=BR0.below hb1;replace bb:=bb.trans (hb1.mono bb.size);have hsz1:=bb.size;have s_1:=sB;have s_3:=sB;have s_5:=sB;obtain ⟨u5,t5,rfl,q5,d5⟩:=q5;obtain ⟨A9,c9,rfl,_⟩:=id q5;obtain ⟨D9,e9,rfl,_⟩:=id d5;have fS:=(f5 _ _ _ rfl).1.mono s_5;have fT:=(f5 _ _ _ rfl).2.mono s_5;refine zI5 (i:=7) rfl rfl rfl rfl rfl rfl (cells:=[.bool (ngB (Q).num),.slice A9 (digs 4294967296 (Q).num.natAbs).length c9,.slice D9 (digs 4294967296 (Q).den).length e9]) rfl BR0 rfl (by kernel_rfl) (zI6 rfl rfl rfl) fun w9 hg9 B9 => ?_;have k9:=off q5 BR0 zE0 hg9;have d9:=off d5 BR0 zE0 hg9;have bb9:=bb.trans ((Below.refl _ _).grown hg9 bb.size (fun g hg=>by injection hg with hg;omega));obtain ⟨C0,C1,C2,_,_,_⟩:=three B9;refine zQ9 (i:=8) (.int .i64 0) rfl rfl rfl rfl rfl fun b hbf => ?_;simp only [Act.put,zA0,zA2,zA1] at hbf;subst hbf;refine zD ?_;go_wp2;rw [HQ0.out];exact bodyPost_ret (v:=.tuple #[.agg #[.bool (ngB (Q).num),.slice A9 (digs 4294967296 (Q).num.natAbs).length c9,.slice D9 (digs 4294967296 (Q).den).length e9],.int .i64 0]) (by simp [results,results42,go_sem,C0,C1,C2]) rfl ⟨_,rfl,zV8 k9 d9 rfl rfl rfl,zM1 fS fT,bb9⟩
theorem jA5 (n d:Int) (w:World) (hn : -9223372036854775808<=n/\n<=9223372036854775807) (hd : -9223372036854775808<=d/\d<=9223372036854775807) (h0:d≠0):Calls prog 42 #[.int .i64 n,.int .i64 d] w (qE8 (Rat.divInt n d) 0 w) :=
 (jA4 n d w hn hd h0).mono fun _ _ h=>h.e
theorem jA6 (v u:Value) (l m:List Nat) (b:Bool) (w:World) (h:IsS w .u64 v l) (h':IsS w .u64 u m) (hu:Lt 18446744073709551616 l) (hu':Lt 18446744073709551616 m) (hb_:b=zN1 l m) :
  Calls prog 122 #[v,u] w (zD5 (.bool b) w):=by
 have HB:=hQ9 hb_;clear hb_;obtain ⟨A,c,rfl,hc,hm,hr⟩:=h;obtain ⟨A',c',rfl,hc',hmm,hr'⟩:=h';unfold maxLen at hm hmm;by_cases hne:l.length=m.length
 ·have hb1:((l.length:Int) != (m.length:Int))=false:=by rw [hne];simp
  have HL:=hQ9 hne;have hl1:l.length<=m.length:=by omega
  have hl2:m.length<=l.length:=by omega
  clear hne
  go_enter func122,ntmps122
  go_wp2
  go_loopw [13] (fun vi wr => ∃ k:Nat,k<=l.length/\Hid (l.take k=m.take k)/\Below w.heap.size w wr/\vi=.int .i64 (k:Int)) (fun vi _=>l.length-(intOf vi).toNat)
  case atStart=>exact ⟨0,by omega,by show _=_;simp,Below.refl _ _,rfl⟩
  case round =>
   obtain ⟨k,hk,HT,hb,rfl⟩:=hrel;by_cases hlt:k<l.length
   ·obtain ⟨ad,d,rfl,hd,hcell⟩:=(hr.below hb).at_ hlt;obtain ⟨ad',e,rfl,he,hcell'⟩:=(hr'.below hb).at_ (i:=k) (by omega);by_cases hde:d=e
    ·subst hde;have HN:Hid (l.take (k+1)=m.take (k+1)):=by show _=_;rw [zT0 hd,zT0 he,HT.out]
     have hz:((d:Int) != (d:Int))=false:=by simp
     clear hd he;go_wp2
     go_quiet (fail)
     go_wp2;go_roundw;case rel=>exact ⟨k+1,by omega,HN,zN hb _,by go_num⟩
     case measure=>simp [intOf];omega
    ·have HN:Hid (zN1 l m=false):=qX0 hd he hde;have hz:((d:Int) != (e:Int))=true:=by rw [bne_iff_ne];omega
     clear hd he hde;go_wp2
     go_quiet (fail)
     go_wp2;go_ret;exact ⟨by rw [HB.out,HN.out];rfl,zN hb _⟩
   ·obtain rfl:k=l.length:=by omega
    have HN:Hid (zN1 l m=true):=by
     have:=HT.out
     rw [List.take_length,zA7 hl2] at this;rw [this];exact qW9 m
    go_wp2;go_ret;exact ⟨by rw [HB.out,HN.out];rfl,hb⟩
 ·have hb1:((l.length:Int) != (m.length:Int))=true:=by rw [bne_iff_ne];omega
  have HN:Hid (zN1 l m=false):=qX hne;clear hne
  go_enter func122,ntmps122
  go_wp2;go_ret;exact ⟨by rw [HB.out,HN.out];rfl,Below.refl _ _⟩
theorem qT1 (v u:Value) (x y:Nat) (b:Bool) (w:World) (h:IsS w .u64 v (digs 4294967296 x)) (h':IsS w .u64 u (digs 4294967296 y)) (hb:b=decide (x=y)) :
  Calls prog 122 #[v,u] w (zD5 (.bool b) w) :=
 jA6 v u _ _ b w h h' (qI9 x) (qI9 y) (by rw [hb,qY9])
theorem yF8 (a0 a1:Value) (x y:Rat) (b:Bool) (w:World) (h0:IsQ w a0 x) (h1:IsQ w a1 y) (hb:b=decide (x=y)) :
  Calls prog 79 #[a0,a1] w (zD5 (.bool b) w):=by
 by_cases hs:ngB x.num=ngB y.num
 ·by_cases hn:x.num.natAbs=y.num.natAbs
  ·obtain ⟨u0,t0,rfl,s0,r0⟩:=h0;obtain ⟨A0,c0,rfl,_⟩:=id s0;obtain ⟨D0,e0,rfl,_⟩:=id r0;obtain ⟨u1,t1,rfl,s1,r1⟩:=h1;obtain ⟨A1,c1,rfl,_⟩:=id s1;obtain ⟨D1,e1,rfl,_⟩:=id r1;have HE:Hid ((ngB x.num == ngB y.num)=true):=by show _=_;rw [hs];exact beq_self_eq_true _
   have HB:Hid (b=decide (x.den=y.den)):=by show _=_;rw [hb,decide_eq_decide,yX5];exact ⟨fun e=>e.2,fun e=>⟨by rw [<- zV4 x.num,<- zV4 y.num,hs,hn],e⟩⟩
   clear hb hs;have HN:Hid (true=decide (x.num.natAbs=y.num.natAbs)):=(decide_eq_true hn).symm;clear hn
   go_enter func79,ntmps79
   go_upto_region 1 with (fail)
   obtain ⟨wx,hwx,bb,B0,B1,hsz⟩:=zH4 w 83 83 #[.bool (ngB (x).num),.slice A0 (digs 4294967296 (x).num.natAbs).length c0,.slice D0 (digs 4294967296 (x).den).length e0] #[.bool (ngB (y).num),.slice A1 (digs 4294967296 (y).num.natAbs).length c1,.slice D1 (digs 4294967296 (y).den).length e1];rw [hwx];clear hwx;have k0s:=s0.below bb;have k0d:=r0.below bb;have k0z:IsZ wx (.agg #[.bool (ngB (x).num),.slice A0 (digs 4294967296 (x).num.natAbs).length c0]) (x).num:=⟨_,rfl,k0s⟩;have k0:IsQ wx (.agg #[.bool (ngB (x).num),.slice A0 (digs 4294967296 (x).num.natAbs).length c0,.slice D0 (digs 4294967296 (x).den).length e0]) (x):=⟨_,_,rfl,k0s,k0d⟩;have k1s:=s1.below bb;have k1d:=r1.below bb;have k1z:IsZ wx (.agg #[.bool (ngB (y).num),.slice A1 (digs 4294967296 (y).num.natAbs).length c1]) (y).num:=⟨_,rfl,k1s⟩;have k1:IsQ wx (.agg #[.bool (ngB (y).num),.slice A1 (digs 4294967296 (y).num.natAbs).length c1,.slice D1 (digs 4294967296 (y).den).length e1]) (y):=⟨_,_,rfl,k1s,k1d⟩;have hsz0:=bb.size;have sB:=bb.size;refine zC9 24 [Pd.eq (.pointer (some ⟨w.heap.size,0,none⟩)),Pd.eq (.pointer (some ⟨w.heap.size,0,none⟩)),Pd.eq (.bool (ngB (x).num)),Pd.eq (.pointer (some ⟨w.heap.size+1,0,none⟩)),Pd.eq (.pointer (some ⟨w.heap.size+1,0,none⟩)),Pd.eq (.bool (ngB (y).num)),Pd.eq (.bool true),Pd.eq (.bool true),Pd.eq (.pointer (some ⟨w.heap.size,0,none⟩)),Pd.eq (.pointer (some ⟨w.heap.size,1,none⟩)),Pd.eq (.slice A0 (digs 4294967296 (x).num.natAbs).length c0),Pd.eq (.pointer (some ⟨w.heap.size+1,0,none⟩)),Pd.eq (.pointer (some ⟨w.heap.size+1,1,none⟩)),Pd.eq (.slice A1 (digs 4294967296 (y).num.natAbs).length c1),Pd.eq (.bool true),Pd.eq (.bool true),Pd.eq (.bool true),Pd.eq (.pointer (some ⟨w.heap.size,2,none⟩)),Pd.eq (.slice D0 (digs 4294967296 (x).den).length e0),Pd.eq (.pointer (some ⟨w.heap.size+1,2,none⟩)),Pd.eq (.slice D1 (digs 4294967296 (y).den).length e1),Pd.eq (.bool b),Pd.eq (.bool b),Pd.eq (.bool b)] (by kernel_rfl) ?ob46 ?done46
   case ob46 =>
    refine zA (zC1 rfl (zB7 rfl) (zB9 rfl rfl) (fun _=>by kernel_rfl) (fun _=>rfl)) ?_;refine zA (zC1 rfl (zB7 rfl) (zB8 (j:=0) (by kernel_rfl) rfl rfl) (fun _=>by kernel_rfl) (fun _=>rfl)) ?_;refine zA (zC rfl (zB7 rfl) (zB8 (j:=1) (by kernel_rfl) rfl rfl) (fun w2 hb=>zC3 underlying4 rfl ((B0.below hb).cell 0)) (fun _ _=>rfl)) ?_;refine zA (zC1 rfl (zB7 rfl) (zB9 rfl rfl) (fun _=>by kernel_rfl) (fun _=>rfl)) ?_;refine zA (zC1 rfl (zB7 rfl) (zB8 (j:=3) (by kernel_rfl) rfl rfl) (fun _=>by kernel_rfl) (fun _=>rfl)) ?_;refine zA (zC rfl (zB7 rfl) (zB8 (j:=4) (by kernel_rfl) rfl rfl) (fun w2 hb=>zC3 underlying4 rfl ((B1.below hb).cell 0)) (fun _ _=>rfl)) ?_;refine zA (zE8 rfl (zB7 rfl) (zB8 (j:=2) (by kernel_rfl) rfl rfl) (zB8 (j:=5) (by kernel_rfl) rfl rfl) (fun _ _ _ hx hy=>⟨.bool true,by rw [hx,hy];exact (zM5 _ _ _ _ underlying4 _).trans (by rw [HE.out]),rfl⟩)) ?_;refine zA (zC2 rfl (zB7 rfl) (zB8 (j:=6) (by kernel_rfl) rfl rfl) (fun _ _ h=>h)) ?_;refine zA (zC1 rfl (zD3 (c:=true) (b:=true) (g:=7) rfl (by kernel_rfl) rfl rfl rfl (by exact fun _ _ h=>h)) (zB9 rfl rfl) (fun _=>by kernel_rfl) (fun _=>rfl)) ?_;refine zA (zC1 rfl (zD3 (c:=true) (b:=true) (g:=7) rfl (by kernel_rfl) rfl rfl rfl (by exact fun _ _ h=>h)) (zB8 (j:=8) (by kernel_rfl) rfl rfl) (fun _=>by kernel_rfl) (fun _=>rfl)) ?_;refine zA (zC rfl (zD3 (c:=true) (b:=true) (g:=7) rfl (by kernel_rfl) rfl rfl rfl (by exact fun _ _ h=>h)) (zB8 (j:=9) (by kernel_rfl) rfl rfl) (fun w2 hb=>zC3 underlying50 rfl ((B0.below hb).cell 1)) (fun _ _=>rfl)) ?_;refine zA (zC1 rfl (zD3 (c:=true) (b:=true) (g:=7) rfl (by kernel_rfl) rfl rfl rfl (by exact fun _ _ h=>h)) (zB9 rfl rfl) (fun _=>by kernel_rfl) (fun _=>rfl)) ?_;refine zA (zC1 rfl (zD3 (c:=true) (b:=true) (g:=7) rfl (by kernel_rfl) rfl rfl rfl (by exact fun _ _ h=>h)) (zB8 (j:=11) (by kernel_rfl) rfl rfl) (fun _=>by kernel_rfl) (fun _=>rfl)) ?_;refine zA (zC rfl (zD3 (c:=true) (b:=true) (g:=7) rfl (by kernel_rfl) rfl rfl rfl (by exact fun _ _ h=>h)) (zB8 (j:=12) (by kernel_rfl) rfl rfl) (fun w2 hb=>zC3 underlying50 rfl ((B1.below hb).cell 1)) (fun _ _=>rfl)) ?_;refine zA (zD0 rfl func122 (by kernel_rfl) (zD3 (c:=true) (b:=true) (g:=7) rfl (by kernel_rfl) rfl rfl rfl (by exact fun _ _ h=>h)) (zB8 (j:=10) (by kernel_rfl) rfl rfl) (zB8 (j:=13) (by kernel_rfl) rfl rfl) (fun w2 u0 u1 hb h0 h1=>by obtain rfl:=h0;obtain rfl:=h1;exact (qT1 _ _ (x).num.natAbs (y).num.natAbs true _ (k0s.below hb) (k1s.below hb) HN.out).mono fun e w3 h=>zD5.pd h)) ?_;refine zA (zM4 (b:=true) rfl (zB7 rfl) (zB8 (j:=7) (by kernel_rfl) rfl rfl) (zB8 (j:=14) (by kernel_rfl) rfl rfl) (fun _ _ h=>h)) ?_;refine zA (zC2 rfl (zB7 rfl) (zB8 (j:=15) (by kernel_rfl) rfl rfl) (fun _ _ h=>h)) ?_;refine zA (zC1 rfl (zD3 (c:=true) (b:=true) (g:=16) rfl (by kernel_rfl) rfl rfl rfl (by exact fun _ _ h=>h)) (zB9 rfl rfl) (fun _=>by kernel_rfl) (fun _=>rfl)) ?_;refine zA (zC rfl (zD3 (c:=true) (b:=true) (g:=16) rfl (by kernel_rfl) rfl rfl rfl (by exact fun _ _ h=>h)) (zB8 (j:=17) (by kernel_rfl) rfl rfl) (fun w2 hb=>zC3 underlying50 rfl ((B0.below hb).cell 2)) (fun _ _=>rfl)) ?_;refine zA (zC1 rfl (zD3 (c:=true) (b:=true) (g:=16) rfl (by kernel_rfl) rfl rfl rfl (by exact fun _ _ h=>h)) (zB9 rfl rfl) (fun _=>by kernel_rfl) (fun _=>rfl)) ?_;refine zA (zC rfl (zD3 (c:=true) (b:=true) (g:=16) rfl (by kernel_rfl) rfl rfl rfl (by exact fun _ _ h=>h)) (zB8 (j:=19) (by kernel_rfl) rfl rfl) (fun w2 hb=>zC3 underlying50 rfl ((B1.below hb).cell 2)) (fun _ _=>rfl)) ?_;refine zA (zD0 rfl func122 (by kernel_rfl) (zD3 (c:=true) (b:=true) (g:=16) rfl (by kernel_rfl) rfl rfl rfl (by exact fun _ _ h=>h)) (zB8 (j:=18) (by kernel_rfl) rfl rfl) (zB8 (j:=20) (by kernel_rfl) rfl rfl) (fun w2 u0 u1 hb h0 h1=>by obtain rfl:=h0;obtain rfl:=h1;exact (qT1 _ _ (x).den (y).den b _ (k0d.below hb) (k1d.below hb) HB.out).mono fun e w3 h=>zD5.pd h)) ?_;refine zA (zM4 (b:=true) rfl (zB7 rfl) (zB8 (j:=16) (by kernel_rfl) rfl rfl) (zB8 (j:=21) (by kernel_rfl) rfl rfl) (fun _ _ h=>h)) ?_;refine zA (zE6 rfl (zB7 rfl) (zB8 (j:=22) (by kernel_rfl) rfl rfl) (fun _ _ h=>h)) ?_
    trivial
   case done46 =>
    refine fun w1 hb1 v0 h0 v1 h1 v2 h2 v3 h3 v4 h4 v5 h5 v6 h6 v7 h7 v8 h8 v9 h9 v10 h10 v11 h11 v12 h12 v13 h13 v14 h14 v15 h15 v16 h16 v17 h17 v18 h18 v19 h19 v20 h20 v21 h21 v22 h22 v23 h23 b hbf => ?_;obtain rfl:=h0;obtain rfl:=h1;obtain rfl:=h2;obtain rfl:=h3;obtain rfl:=h4;obtain rfl:=h5;obtain rfl:=h6;obtain rfl:=h7;obtain rfl:=h8;obtain rfl:=h9;obtain rfl:=h10;obtain rfl:=h11;obtain rfl:=h12;obtain rfl:=h13;obtain rfl:=h14;obtain rfl:=h15;obtain rfl:=h16;obtain rfl:=h17;obtain rfl:=h18;obtain rfl:=h19;obtain rfl:=h20;obtain rfl:=h21;obtain rfl:=h22;obtain rfl:=h23;simp only [Act.put,zA0,zA2,zA1] at hbf;subst hbf;replace B0:=B0.below hb1;replace k0s:=k0s.below hb1;replace k0d:=k0d.below hb1;replace k0z:=k0z.below hb1;replace k0:=k0.below hb1;replace B1:=B1.below hb1;replace k1s:=k1s.below hb1;replace k1d:=k1d.below hb1;replace k1z:=k1z.below hb1;replace k1:=k1.below hb1;replace bb:=bb.trans (hb1.mono bb.size);have hsz1:=bb.size;refine zD ?_;go_wp2;go_ret;exact ⟨rfl,bb⟩
  ·obtain ⟨u0,t0,rfl,s0,r0⟩:=h0;obtain ⟨A0,c0,rfl,_⟩:=id s0;obtain ⟨D0,e0,rfl,_⟩:=id r0;obtain ⟨u1,t1,rfl,s1,r1⟩:=h1;obtain ⟨A1,c1,rfl,_⟩:=id s1;obtain ⟨D1,e1,rfl,_⟩:=id r1;have HE:Hid ((ngB x.num == ngB y.num)=true):=by show _=_;rw [hs];exact beq_self_eq_true _
   obtain rfl:b=false:=by rw [hb,decide_eq_false_iff_not];exact fun e=>hn (by rw [e])
   clear hb hs;have HN:Hid (false=decide (x.num.natAbs=y.num.natAbs)):=(decide_eq_false hn).symm;clear hn
   go_enter func79,ntmps79
   go_upto_region 1 with (fail)
   obtain ⟨wx,hwx,bb,B0,B1,hsz⟩:=zH4 w 83 83 #[.bool (ngB (x).num),.slice A0 (digs 4294967296 (x).num.natAbs).length c0,.slice D0 (digs 4294967296 (x).den).length e0] #[.bool (ngB (y).num),.slice A1 (digs 4294967296 (y).num.natAbs).length c1,.slice D1 (digs 4294967296 (y).den).length e1];rw [hwx];clear hwx;have k0s:=s0.below bb;have k0d:=r0.below bb;have k0z:IsZ wx (.agg #[.bool (ngB (x).num),.slice A0 (digs 4294967296 (x).num.natAbs).length c0]) (x).num:=⟨_,rfl,k0s⟩;have k0:IsQ wx (.agg #[.bool (ngB (x).num),.slice A0 (digs 4294967296 (x).num.natAbs).length c0,.slice D0 (digs 4294967296 (x).den).length e0]) (x):=⟨_,_,rfl,k0s,k0d⟩;have k1s:=s1.below bb;have k1d:=r1.below bb;have k1z:IsZ wx (.agg #[.bool (ngB (y).num),.slice A1 (digs 4294967296 (y).num.natAbs).length c1]) (y).num:=⟨_,rfl,k1s⟩;have k1:IsQ wx (.agg #[.bool (ngB (y).num),.slice A1 (digs 4294967296 (y).num.natAbs).length c1,.slice D1 (digs 4294967296 (y).den).length e1]) (y):=⟨_,_,rfl,k1s,k1d⟩;have hsz0:=bb.size;have sB:=bb.size;refine zC9 24 [Pd.eq (.pointer (some ⟨w.heap.size,0,none⟩)),Pd.eq (.pointer (some ⟨w.heap.size,0,none⟩)),Pd.eq (.bool (ngB (x).num)),Pd.eq (.pointer (some ⟨w.heap.size+1,0,none⟩)),Pd.eq (.pointer (some ⟨w.heap.size+1,0,none⟩)),Pd.eq (.bool (ngB (y).num)),Pd.eq (.bool true),Pd.eq (.bool true),Pd.eq (.pointer (some ⟨w.heap.size,0,none⟩)),Pd.eq (.pointer (some ⟨w.heap.size,1,none⟩)),Pd.eq (.slice A0 (digs 4294967296 (x).num.natAbs).length c0),Pd.eq (.pointer (some ⟨w.heap.size+1,0,none⟩)),Pd.eq (.pointer (some ⟨w.heap.size+1,1,none⟩)),Pd.eq (.slice A1 (digs 4294967296 (y).num.natAbs).length c1),Pd.eq (.bool false),Pd.eq (.bool false),Pd.eq (.bool false),Pd.any,Pd.any,Pd.any,Pd.any,Pd.any,Pd.eq (.bool false),Pd.eq (.bool false)] (by kernel_rfl) ?ob45 ?done45
   case ob45 =>
    refine zA (zC1 rfl (zB7 rfl) (zB9 rfl rfl) (fun _=>by kernel_rfl) (fun _=>rfl)) ?_;refine zA (zC1 rfl (zB7 rfl) (zB8 (j:=0) (by kernel_rfl) rfl rfl) (fun _=>by kernel_rfl) (fun _=>rfl)) ?_;refine zA (zC rfl (zB7 rfl) (zB8 (j:=1) (by kernel_rfl) rfl rfl) (fun w2 hb=>zC3 underlying4 rfl ((B0.below hb).cell 0)) (fun _ _=>rfl)) ?_;refine zA (zC1 rfl (zB7 rfl) (zB9 rfl rfl) (fun _=>by kernel_rfl) (fun _=>rfl)) ?_;refine zA (zC1 rfl (zB7 rfl) (zB8 (j:=3) (by kernel_rfl) rfl rfl) (fun _=>by kernel_rfl) (fun _=>rfl)) ?_;refine zA (zC rfl (zB7 rfl) (zB8 (j:=4) (by kernel_rfl) rfl rfl) (fun w2 hb=>zC3 underlying4 rfl ((B1.below hb).cell 0)) (fun _ _=>rfl)) ?_;refine zA (zE8 rfl (zB7 rfl) (zB8 (j:=2) (by kernel_rfl) rfl rfl) (zB8 (j:=5) (by kernel_rfl) rfl rfl) (fun _ _ _ hx hy=>⟨.bool true,by rw [hx,hy];exact (zM5 _ _ _ _ underlying4 _).trans (by rw [HE.out]),rfl⟩)) ?_;refine zA (zC2 rfl (zB7 rfl) (zB8 (j:=6) (by kernel_rfl) rfl rfl) (fun _ _ h=>h)) ?_;refine zA (zC1 rfl (zD3 (c:=true) (b:=true) (g:=7) rfl (by kernel_rfl) rfl rfl rfl (by exact fun _ _ h=>h)) (zB9 rfl rfl) (fun _=>by kernel_rfl) (fun _=>rfl)) ?_;refine zA (zC1 rfl (zD3 (c:=true) (b:=true) (g:=7) rfl (by kernel_rfl) rfl rfl rfl (by exact fun _ _ h=>h)) (zB8 (j:=8) (by kernel_rfl) rfl rfl) (fun _=>by kernel_rfl) (fun _=>rfl)) ?_;refine zA (zC rfl (zD3 (c:=true) (b:=true) (g:=7) rfl (by kernel_rfl) rfl rfl rfl (by exact fun _ _ h=>h)) (zB8 (j:=9) (by kernel_rfl) rfl rfl) (fun w2 hb=>zC3 underlying50 rfl ((B0.below hb).cell 1)) (fun _ _=>rfl)) ?_;refine zA (zC1 rfl (zD3 (c:=true) (b:=true) (g:=7) rfl (by kernel_rfl) rfl rfl rfl (by exact fun _ _ h=>h)) (zB9 rfl rfl) (fun _=>by kernel_rfl) (fun _=>rfl)) ?_;refine zA (zC1 rfl (zD3 (c:=true) (b:=true) (g:=7) rfl (by kernel_rfl) rfl rfl rfl (by exact fun _ _ h=>h)) (zB8 (j:=11) (by kernel_rfl) rfl rfl) (fun _=>by kernel_rfl) (fun _=>rfl)) ?_;refine zA (zC rfl (zD3 (c:=true) (b:=true) (g:=7) rfl (by kernel_rfl) rfl rfl rfl (by exact fun _ _ h=>h)) (zB8 (j:=12) (by kernel_rfl) rfl rfl) (fun w2 hb=>zC3 underlying50 rfl ((B1.below hb).cell 1)) (fun _ _=>rfl)) ?_;refine zA (zD0 rfl func122 (by kernel_rfl) (zD3 (c:=true) (b:=true) (g:=7) rfl (by kernel_rfl) rfl rfl rfl (by exact fun _ _ h=>h)) (zB8 (j:=10) (by kernel_rfl) rfl rfl) (zB8 (j:=13) (by kernel_rfl) rfl rfl) (fun w2 u0 u1 hb h0 h1=>by obtain rfl:=h0;obtain rfl:=h1;exact (qT1 _ _ (x).num.natAbs (y).num.natAbs false _ (k0s.below hb) (k1s.below hb) HN.out).mono fun e w3 h=>zD5.pd h)) ?_;refine zA (zM4 (b:=true) rfl (zB7 rfl) (zB8 (j:=7) (by kernel_rfl) rfl rfl) (zB8 (j:=14) (by kernel_rfl) rfl rfl) (fun _ _ h=>h)) ?_;refine zA (zC2 rfl (zB7 rfl) (zB8 (j:=15) (by kernel_rfl) rfl rfl) (fun _ _ h=>h)) ?_;refine zA (zG3 (zD3 (c:=false) (b:=true) (g:=16) rfl (by kernel_rfl) rfl rfl rfl (by exact fun _ _ h=>h)) (fun _=>trivial) rfl) ?_;refine zA (zG3 (zD3 (c:=false) (b:=true) (g:=16) rfl (by kernel_rfl) rfl rfl rfl (by exact fun _ _ h=>h)) (fun _=>trivial) rfl) ?_;refine zA (zG3 (zD3 (c:=false) (b:=true) (g:=16) rfl (by kernel_rfl) rfl rfl rfl (by exact fun _ _ h=>h)) (fun _=>trivial) rfl) ?_;refine zA (zG3 (zD3 (c:=false) (b:=true) (g:=16) rfl (by kernel_rfl) rfl rfl rfl (by exact fun _ _ h=>h)) (fun _=>trivial) rfl) ?_;refine zA (zG3 (zD3 (c:=false) (b:=true) (g:=16) rfl (by kernel_rfl) rfl rfl rfl (by exact fun _ _ h=>h)) (fun _=>trivial) rfl) ?_;refine zA (zM4 (b:=false) rfl (zB7 rfl) (zB8 (j:=16) (by kernel_rfl) rfl rfl) (zG2 _) (fun _ _ h=>h)) ?_;refine zA (zE6 rfl (zB7 rfl) (zB8 (j:=22) (by kernel_rfl) rfl rfl) (fun _ _ h=>h)) ?_
    trivial
   case done45 =>
    refine fun w1 hb1 v0 h0 v1 h1 v2 h2 v3 h3 v4 h4 v5 h5 v6 h6 v7 h7 v8 h8 v9 h9 v10 h10 v11 h11 v12 h12 v13 h13 v14 h14 v15 h15 v16 h16 v17 h17 v18 h18 v19 h19 v20 h20 v21 h21 v22 h22 v23 h23 b hbf => ?_;obtain rfl:=h0;obtain rfl:=h1;obtain rfl:=h2;obtain rfl:=h3;obtain rfl:=h4;obtain rfl:=h5;obtain rfl:=h6;obtain rfl:=h7;obtain rfl:=h8;obtain rfl:=h9;obtain rfl:=h10;obtain rfl:=h11;obtain rfl:=h12;obtain rfl:=h13;obtain rfl:=h14;obtain rfl:=h15;obtain rfl:=h16;obtain rfl:=h22;obtain rfl:=h23;clear h17;clear h18;clear h19;clear h20;clear h21;simp only [Act.put,zA0,zA2,zA1] at hbf;subst hbf;replace B0:=B0.below hb1;replace k0s:=k0s.below hb1;replace k0d:=k0d.below hb1;replace k0z:=k0z.below hb1;replace k0:=k0.below hb1;replace B1:=B1.below hb1;replace k1s:=k1s.below hb1;replace k1d:=k1d.below hb1;replace k1z:=k1z.below hb1;replace k1:=k1.below hb1;replace bb:=bb.trans (hb1.mono bb.size);have hsz1:=bb.size;refine zD ?_;go_wp2;go_ret;exact ⟨rfl,bb⟩
 ·obtain ⟨u0,t0,rfl,s0,r0⟩:=h0;obtain ⟨A0,c0,rfl,_⟩:=id s0;obtain ⟨D0,e0,rfl,_⟩:=id r0;obtain ⟨u1,t1,rfl,s1,r1⟩:=h1;obtain ⟨A1,c1,rfl,_⟩:=id s1;obtain ⟨D1,e1,rfl,_⟩:=id r1;obtain rfl:b=false:=by rw [hb,decide_eq_false_iff_not];exact fun e=>hs (by rw [e])
  clear hb;have HE:Hid ((ngB x.num == ngB y.num)=false):=by show _=_;rw [beq_eq_false_iff_ne];exact hs
  clear hs
  go_enter func79,ntmps79
  go_upto_region 1 with (fail)
  obtain ⟨wx,hwx,bb,B0,B1,hsz⟩:=zH4 w 83 83 #[.bool (ngB (x).num),.slice A0 (digs 4294967296 (x).num.natAbs).length c0,.slice D0 (digs 4294967296 (x).den).length e0] #[.bool (ngB (y).num),.slice A1 (digs 4294967296 (y).num.natAbs).length c1,.slice D1 (digs 4294967296 (y).den).length e1];rw [hwx];clear hwx;have k0s:=s0.below bb;have k0d:=r0.below bb;have k0z:IsZ wx (.agg #[.bool (ngB (x).num),.slice A0 (digs 4294967296 (x).num.natAbs).length c0]) (x).num:=⟨_,rfl,k0s⟩;have k0:IsQ wx (.agg #[.bool (ngB (x).num),.slice A0 (digs 4294967296 (x).num.natAbs).length c0,.slice D0 (digs 4294967296 (x).den).length e0]) (x):=⟨_,_,rfl,k0s,k0d⟩;have k1s:=s1.below bb;have k1d:=r1.below bb;have k1z:IsZ wx (.agg #[.bool (ngB (y).num),.slice A1 (digs 4294967296 (y).num.natAbs).length c1]) (y).num:=⟨_,rfl,k1s⟩;have k1:IsQ wx (.agg #[.bool (ngB (y).num),.slice A1 (digs 4294967296 (y).num.natAbs).length c1,.slice D1 (digs 4294967296 (y).den).length e1]) (y):=⟨_,_,rfl,k1s,k1d⟩;have hsz0:=bb.size;have sB:=bb.size;refine zC9 24 [Pd.eq (.pointer (some ⟨w.heap.size,0,none⟩)),Pd.eq (.pointer (some ⟨w.heap.size,0,none⟩)),Pd.eq (.bool (ngB (x).num)),Pd.eq (.pointer (some ⟨w.heap.size+1,0,none⟩)),Pd.eq (.pointer (some ⟨w.heap.size+1,0,none⟩)),Pd.eq (.bool (ngB (y).num)),Pd.eq (.bool false),Pd.eq (.bool false),Pd.any,Pd.any,Pd.any,Pd.any,Pd.any,Pd.any,Pd.any,Pd.eq (.bool false),Pd.eq (.bool false),Pd.any,Pd.any,Pd.any,Pd.any,Pd.any,Pd.eq (.bool false),Pd.eq (.bool false)] (by kernel_rfl) ?ob44 ?done44
  case ob44 =>
   refine zA (zC1 rfl (zB7 rfl) (zB9 rfl rfl) (fun _=>by kernel_rfl) (fun _=>rfl)) ?_;refine zA (zC1 rfl (zB7 rfl) (zB8 (j:=0) (by kernel_rfl) rfl rfl) (fun _=>by kernel_rfl) (fun _=>rfl)) ?_;refine zA (zC rfl (zB7 rfl) (zB8 (j:=1) (by kernel_rfl) rfl rfl) (fun w2 hb=>zC3 underlying4 rfl ((B0.below hb).cell 0)) (fun _ _=>rfl)) ?_;refine zA (zC1 rfl (zB7 rfl) (zB9 rfl rfl) (fun _=>by kernel_rfl) (fun _=>rfl)) ?_;refine zA (zC1 rfl (zB7 rfl) (zB8 (j:=3) (by kernel_rfl) rfl rfl) (fun _=>by kernel_rfl) (fun _=>rfl)) ?_;refine zA (zC rfl (zB7 rfl) (zB8 (j:=4) (by kernel_rfl) rfl rfl) (fun w2 hb=>zC3 underlying4 rfl ((B1.below hb).cell 0)) (fun _ _=>rfl)) ?_;refine zA (zE8 rfl (zB7 rfl) (zB8 (j:=2) (by kernel_rfl) rfl rfl) (zB8 (j:=5) (by kernel_rfl) rfl rfl) (fun _ _ _ hx hy=>⟨.bool false,by rw [hx,hy];exact (zM5 _ _ _ _ underlying4 _).trans (by rw [HE.out]),rfl⟩)) ?_;refine zA (zC2 rfl (zB7 rfl) (zB8 (j:=6) (by kernel_rfl) rfl rfl) (fun _ _ h=>h)) ?_;refine zA (zG3 (zD3 (c:=false) (b:=true) (g:=7) rfl (by kernel_rfl) rfl rfl rfl (by exact fun _ _ h=>h)) (fun _=>trivial) rfl) ?_;refine zA (zG3 (zD3 (c:=false) (b:=true) (g:=7) rfl (by kernel_rfl) rfl rfl rfl (by exact fun _ _ h=>h)) (fun _=>trivial) rfl) ?_;refine zA (zG3 (zD3 (c:=false) (b:=true) (g:=7) rfl (by kernel_rfl) rfl rfl rfl (by exact fun _ _ h=>h)) (fun _=>trivial) rfl) ?_;refine zA (zG3 (zD3 (c:=false) (b:=true) (g:=7) rfl (by kernel_rfl) rfl rfl rfl (by exact fun _ _ h=>h)) (fun _=>trivial) rfl) ?_;refine zA (zG3 (zD3 (c:=false) (b:=true) (g:=7) rfl (by kernel_rfl) rfl rfl rfl (by exact fun _ _ h=>h)) (fun _=>trivial) rfl) ?_;refine zA (zG3 (zD3 (c:=false) (b:=true) (g:=7) rfl (by kernel_rfl) rfl rfl rfl (by exact fun _ _ h=>h)) (fun _=>trivial) rfl) ?_;refine zA (zG3 (zD3 (c:=false) (b:=true) (g:=7) rfl (by kernel_rfl) rfl rfl rfl (by exact fun _ _ h=>h)) (fun _=>trivial) rfl) ?_;refine zA (zM4 (b:=false) rfl (zB7 rfl) (zB8 (j:=7) (by kernel_rfl) rfl rfl) (zG2 _) (fun _ _ h=>h)) ?_;refine zA (zC2 rfl (zB7 rfl) (zB8 (j:=15) (by kernel_rfl) rfl rfl) (fun _ _ h=>h)) ?_;refine zA (zG3 (zD3 (c:=false) (b:=true) (g:=16) rfl (by kernel_rfl) rfl rfl rfl (by exact fun _ _ h=>h)) (fun _=>trivial) rfl) ?_;refine zA (zG3 (zD3 (c:=false) (b:=true) (g:=16) rfl (by kernel_rfl) rfl rfl rfl (by exact fun _ _ h=>h)) (fun _=>trivial) rfl) ?_;refine zA (zG3 (zD3 (c:=false) (b:=true) (g:=16) rfl (by kernel_rfl) rfl rfl rfl (by exact fun _ _ h=>h)) (fun _=>trivial) rfl) ?_;refine zA (zG3 (zD3 (c:=false) (b:=true) (g:=16) rfl (by kernel_rfl) rfl rfl rfl (by exact fun _ _ h=>h)) (fun _=>trivial) rfl) ?_;refine zA (zG3 (zD3 (c:=false) (b:=true) (g:=16) rfl (by kernel_rfl) rfl rfl rfl (by exact fun _ _ h=>h)) (fun _=>trivial) rfl) ?_;refine zA (zM4 (b:=false) rfl (zB7 rfl) (zB8 (j:=16) (by kernel_rfl) rfl rfl) (zG2 _) (fun _ _ h=>h)) ?_;refine zA (zE6 rfl (zB7 rfl) (zB8 (j:=22) (by kernel_rfl) rfl rfl) (fun _ _ h=>h)) ?_
   trivial
  case done44 =>
   refine fun w1 hb1 v0 h0 v1 h1 v2 h2 v3 h3 v4 h4 v5 h5 v6 h6 v7 h7 v8 h8 v9 h9 v10 h10 v11 h11 v12 h12 v13 h13 v14 h14 v15 h15 v16 h16 v17 h17 v18 h18 v19 h19 v20 h20 v21 h21 v22 h22 v23 h23 b hbf => ?_;obtain rfl:=h0;obtain rfl:=h1;obtain rfl:=h2;obtain rfl:=h3;obtain rfl:=h4;obtain rfl:=h5;obtain rfl:=h6;obtain rfl:=h7;obtain rfl:=h15;obtain rfl:=h16;obtain rfl:=h22;obtain rfl:=h23;clear h8;clear h9;clear h10;clear h11;clear h12;clear h13;clear h14;clear h17;clear h18;clear h19;clear h20;clear h21;simp only [Act.put,zA0,zA2,zA1] at hbf;subst hbf;replace B0:=B0.below hb1;replace k0s:=k0s.below hb1;replace k0d:=k0d.below hb1;replace k0z:=k0z.below hb1;replace k0:=k0.below hb1;replace B1:=B1.below hb1;replace k1s:=k1s.below hb1;replace k1d:=k1d.below hb1;replace k1z:=k1z.below hb1;replace k1:=k1.below hb1;replace bb:=bb.trans (hb1.mono bb.size);have hsz1:=bb.size;refine zD ?_;go_wp2;go_ret;exact ⟨rfl,bb⟩
theorem qT2 (p:Elt):(zL0 p).length=3:=rfl
theorem qG4 (ps:List Elt):(zF1 ps).length=ps.length*3:=by
 induction ps with
 | nil=>rfl
 | cons p ps ih=>show (zL0 p ++ zF1 ps).length=_;rw [zA8,ih,qT2,List.length_cons];omega
theorem zZ1 (p:Elt) (ps:List Elt):zF1 (p :: ps)=zL0 p ++ zF1 ps:=rfl
theorem yF9:∀ (ps:List Elt) (i:Nat) (p:Elt),i<ps.length->(zF1 ps).take (i*3) ++ zL0 p ++ (zF1 ps).drop (i*3+3)=zF1 (ps.set i p)
  | [],i,p,h=>by simp at h
  | q :: ps, 0, p, h => by
    rw [zA2,zZ1,zZ1];simp [zL0]
  | q :: ps, i + 1, p, h => by
    have ih:=yF9 ps i p (by simpa using h);rw [zA1,zZ1,zZ1,<- ih,show (i+1)*3=i*3+1+1+1 from by omega,show i*3+1+1+1+3=i*3+3+1+1+1 from by omega];simp [zL0]
def zD8 (w:World) (g n:Nat) (qs:List Rat):Prop:=∃ ps:List Elt,ps.length=n/\qs.length<=n/\Blk w g 83 (zF1 ps).toArray/\(∀ p∈ps,(∃ A m c,p.2.1=.slice A m c) /\ ∃ A m c,p.2.2=.slice A m c) /\ ∀ (i:Nat) (q:Rat),qs[i]?=some q -> ∃ p,ps[i]?=some p/\p.1=q/\IsE .u64 4294967296 w p
theorem zD8.below {w w':World} {g n:Nat} {qs:List Rat} (h:zD8 w g n qs) (hb:Below w.heap.size w w'):zD8 w' g n qs:=by
 obtain ⟨ps,h1,h2,h3,h4,h5⟩:=h;refine ⟨ps,h1,h2,h3.below hb,h4,fun i q hq => ?_⟩;obtain ⟨p,k1,k2,k3⟩:=h5 i q hq;exact ⟨p,k1,k2,k3.below hb⟩
theorem zD8.lt {w:World} {g n:Nat} {qs:List Rat} (h:zD8 w g n qs):g<w.heap.size:=by
 obtain ⟨ps,_,_,h3,_⟩:=h;exact h3.lt
theorem zD8.offb {w w':World} {g g2 n:Nat} {qs:List Rat} {e:TypeId} {cs:Array Value} (h:zD8 w g n qs) (hB:w.heap[g2]?=some (.cells cs e (0,0))) (hno:∀ c∈cs,∀ n,c ≠ .int .u64 n) (hg:w.grownBy w' (some g2)) (hne:g≠g2):zD8 w' g n qs:=by
 obtain ⟨ps,h1,h2,h3,h4,h5⟩:=h;refine ⟨ps,h1,h2,h3.grown hg hne,h4,fun i q hq => ?_⟩;obtain ⟨p,k1,k2,k3⟩:=h5 i q hq;exact ⟨p,k1,k2,Go.Proofs.YtagaabooccnamaaGreat.flow.off k3.1 hB hno hg,Go.Proofs.YtagaabooccnamaaGreat.flow.off k3.2 hB hno hg⟩
theorem yG {ps:List Elt} {c:Value} (h:c∈zF1 ps):∃ p∈ps,c∈zL0 p:=List.mem_flatMap.1 h
theorem yG0 {k:IntKind} {ps:List Elt} (h4:∀ p∈ps,(∃ A m c,p.2.1=.slice A m c) /\ ∃ A m c,p.2.2=.slice A m c):∀ c∈(zF1 ps).toArray,∀ n,c ≠ .int k n:=by
 intro c hc n;obtain ⟨p,hp,hc⟩:=yG (List.mem_toArray.1 hc);obtain ⟨⟨A,m,d,e1⟩,⟨A',m',d',e2⟩⟩:=h4 p hp;simp only [zL0,e1,e2,List.mem_cons,List.not_mem_nil,or_false] at hc;rcases hc with rfl|rfl|rfl<;>simp
theorem zD8.keep {w w':World} {g n:Nat} {qs:List Rat} {k:IntKind} {v:Value} {l:List Nat} (h:zD8 w g n qs) (hg:w.grownBy w' (some g)) (hs:IsS w k v l):IsS w' k v l:=by
 obtain ⟨ps,_,_,h3,h4,_⟩:=h;exact Go.Proofs.YtagaabooccnamaaGreat.flow.off hs h3 (yG0 h4) hg
theorem zD8.sl {w:World} {g n:Nat} {qs:List Rat} (h:zD8 w g n qs) (hn:qs.length=n) (hm:n<=1000000000):SlF .u64 4294967296 w (.slice (some ⟨g,0,none⟩) n n) qs:=by
  obtain ⟨ps,h1,h2,h3,h4,h5⟩:=h
  have key:∀ (i:Nat) (p:Elt),ps[i]?=some p->qs[i]?=some p.1/\IsE .u64 4294967296 w p:=by
    intro i p hp;have hi:=(zA4.1 hp).1;have hq:qs[i]?=some (qs[i]'(by omega)):=zA3 (by omega);obtain ⟨p',k1,k2,k3⟩:=h5 i _ hq;rw [hp] at k1;injection k1 with k1;subst k1;exact ⟨by rw [hq,k2],k3⟩
  refine ⟨ps,?_,⟨some ⟨g,0,none⟩,n,by rw [h1],by omega,by unfold maxLen;omega,fun i p hp=>⟨g,0,rfl,?_⟩⟩,fun p hp => ?_⟩
  · refine List.ext_getElem? fun i => ?_;rw [zB1]
    cases hp:ps[i]? with
    | none =>
      have:ps.length<=i:=List.getElem?_eq_none_iff.1 hp;rw [List.getElem?_eq_none (by omega)];rfl
    | some p=>rw [(key i p hp).1];rfl
  · obtain ⟨f0,f1,f2⟩:=qK9 ps i p hp;rw [Nat.zero_add];refine ⟨?_,?_,?_⟩
    · rw [h3.cell,List.getElem?_toArray];exact f0
    · rw [h3.cell,List.getElem?_toArray];exact f1
    · rw [h3.cell,List.getElem?_toArray];exact f2
  · obtain ⟨i,hi⟩:=List.mem_iff_getElem?.1 hp;exact (key i p hi).2
theorem jA7 {w:World} {g n:Nat} (h:Blk w g 83 (zF1 (zB n ((0,.slice none 0 0,.slice none 0 0):Elt))).toArray):zD8 w g n [] :=
 ⟨_,List.length_replicate,Nat.zero_le _,h,fun p hp=>by obtain rfl:=(List.mem_replicate.1 hp).2;exact ⟨⟨_,_,_,rfl⟩,⟨_,_,_,rfl⟩⟩,fun i q hq=>by simp at hq⟩
theorem made3 (n:Nat):(madeCells #[.bool false,.slice none 0 0,.slice none 0 0] (n*3)).toList=zF1 (zB n ((0,.slice none 0 0,.slice none 0 0):Elt)):=by
  have key:∀ n j:Nat,(zF1 (zB n ((0,.slice none 0 0,.slice none 0 0):Elt)))[j]?=if j<n*3 then some ((#[.bool false,.slice none 0 0,.slice none 0 0]:Array Value)[j % 3]?.getD undef) else none:=by
    intro n
    induction n with
    | zero=>intro j;simp [zF1]
    | succ n ih =>
      intro j;rw [List.replicate_succ,zZ1]
      match j with
      | 0=>simp [zL0,ngB]
      | 1=>simp [zL0];omega
      | 2=>simp [zL0];omega
      | j + 3 =>
        have e:(zL0 ((0,.slice none 0 0,.slice none 0 0):Elt) ++ zF1 (zB n ((0,.slice none 0 0,.slice none 0 0):Elt)))[j+3]?=(zF1 (zB n ((0,.slice none 0 0,.slice none 0 0):Elt)))[j]?:=by simp [zL0]
        rw [e,ih j];have h1:(j+3) % 3=j % 3:=by omega
        rw [h1];by_cases h:j<n*3
        · rw [if_pos h,if_pos (by omega)]
        · rw [if_neg h,if_neg (by omega)]
  apply List.ext_getElem?;intro j;rw [key n j];have h3:j % 3<3:=Nat.mod_lt _ (by omega);by_cases h:j<n*3
  · rw [if_pos h];rcases (by omega:j % 3=0\/j % 3=1\/j % 3=2) with e | e | e<;>simp [madeCells,h,e]
  · rw [if_neg h];simp [madeCells,h]
section
variable {P:Program}
theorem yG1 {w:World} {t:TypeId} (ht:P.underlying t=some (.slice 83)) (hI:∃ i,P.info? 83=some i/\i.zero=some (.agg #[.bool false,.slice none 0 0,.slice none 0 0])/\i.size=3/\i.bytes=56) (n:Nat) (hn:n<=1000000000) :
  ∃ w',(Instr.makeSlice t (.int .i64 (n:Int)) (.int .i64 (n:Int))).run P w=.ok (.slice (some ⟨w.heap.size,0,none⟩) n n) w'/\zD8 w' w.heap.size n []/\Below w.heap.size w w':=by
 obtain ⟨i,hi,hz,hs,hb⟩:=hI;obtain ⟨w',h1,h2,h3⟩:=run_make_full (P:=P) w w.heap.size t 83 i _ 3 ht hi hz hs .i64 .i64 n (by rw [hb];omega) (by unfold maxLen;omega) (zB4 _);refine ⟨w',h1,jA7 ?_,(Below.refl _ w).grown h3 (zB4 _) (fun g hg=>by cases hg)⟩;obtain ⟨hl,h2⟩:=h2;rcases h2 with ⟨h4,_⟩|⟨g,cap,cur,h4,_,h5,_,_,h6,h7⟩
 ·cases h4
 ·injection h4 with h4 _ h8;injection h4 with h4;injection h4 with h4 _ _;subst h4;subst h8;rw [zA7 (by simp [h6])] at h7
  have e:cur=(zF1 (zB n ((0,.slice none 0 0,.slice none 0 0):Elt))).toArray:=by
   rw [<- made3];rw [show (Value.agg #[.bool false,.slice none 0 0,.slice none 0 0]).cells = #[.bool false,.slice none 0 0,.slice none 0 0] from rfl] at h7;rw [<- h7]
  rw [<- e];exact h5
theorem yG2 {w:World} {ops:Array Oper} {rest:List Oper} {o:Oper} {a:Act} {Q:Exit->Act->World->Prop} (hgd:o.guard=none) (lo co:Operand) {t:TypeId} (ho:o.op=Op.makeSlice t lo co)
  (ht:P.underlying t=some (.slice 83)) (hI:∃ i,P.info? 83=some i/\i.zero=some (.agg #[.bool false,.slice none 0 0,.slice none 0 0])/\i.size=3/\i.bytes=56) (n:Nat) (hl:a.eval lo=.int .i64 (n:Int)) (hc:a.eval co=.int .i64 (n:Int)) (hn:n<=1000000000)
  (h:∀ w',zD8 w' w.heap.size n []->Below w.heap.size w w'->wpList P ops Q rest (a.put o.dst (.slice (some ⟨w.heap.size,0,none⟩) n n)) w'):wpList P ops Q (o :: rest) a w:=by
 obtain ⟨w',h1,h2,h3⟩:=yG1 (P:=P) (w:=w) ht hI n hn;refine wpList_plain hgd fun K hK => ?_;unfold Oper.wp execOp;simp only [ho,hl,hc,Sem.run_bind,h1,Result.andThen_ok];exact hK _ _ (h w' h2 h3)
theorem zD8.put {w w':World} {g n i:Nat} {qs:List Rat} {q:Rat} {u t:Value} (h:zD8 w g n qs) (hi:i<n) (hu:IsS w .u64 u (digs 4294967296 q.num.natAbs)) (ht:IsS w .u64 t (digs 4294967296 q.den)) (hg:w.grownBy w' (some g)) (hc:∀ cs,Blk w g 83 cs->Blk w' g 83 (cs.toList.take (0+i*3) ++ [.bool (ngB q.num),u,t] ++ cs.toList.drop (0+i*3+3)).toArray):(i=qs.length->zD8 w' g n (qs ++ [q]))/\(i<qs.length->zD8 w' g n (qs.set i q)):=by
 have keep:=fun {k v l} => h.keep (k:=k) (v:=v) (l:=l) hg;obtain ⟨ps,h1,h2,h3,h4,h5⟩:=h
 have hB:Blk w' g 83 (zF1 (ps.set i (q,u,t))).toArray:=by
  have h6:=hc _ h3;rw [Nat.zero_add,List.toList_toArray] at h6;rw [<- yF9 ps i (q,u,t) (by omega)];exact h6
 have hS:∀ p∈ps.set i (q,u,t),(∃ A m c,p.2.1=.slice A m c) /\ ∃ A m c,p.2.2=.slice A m c:=by
  intro p hp;rcases List.mem_or_eq_of_mem_set hp with hp | rfl
  ·exact h4 p hp
  ·obtain ⟨A,c,e1,_⟩:=hu;obtain ⟨D,d,e2,_⟩:=ht;exact ⟨⟨_,_,_,e1⟩,⟨_,_,_,e2⟩⟩
 have hE:IsE .u64 4294967296 w' ((q,u,t):Elt):=⟨keep hu,keep ht⟩
 have old:∀ (j:Nat) (x:Rat),j≠i->qs[j]?=some x -> ∃ p,(ps.set i (q,u,t))[j]?=some p/\p.1=x/\IsE .u64 4294967296 w' p:=by
  intro j x hj hx;obtain ⟨p,k1,k2,k3⟩:=h5 j x hx;exact ⟨p,by rw [List.getElem?_set_ne (fun e=>hj e.symm)];exact k1,k2,keep k3.1,keep k3.2⟩
 have new:(ps.set i (q,u,t))[i]?=some ((q,u,t):Elt):=by rw [List.getElem?_set_self (by omega)]
 constructor
 ·intro hiq;refine ⟨ps.set i (q,u,t),by rw [zB3];exact h1,by simp;omega,hB,hS,fun j x hx => ?_⟩;by_cases hj:j=i
  ·subst hj;rw [hiq,List.getElem?_concat_length] at hx;injection hx with hx;subst hx;exact ⟨_,new,rfl,hE⟩
  ·refine old j x hj ?_;have hl:=(zA4.1 hx).1;rw [zA8,List.length_singleton] at hl;rwa [zB0 (by omega)] at hx
 ·intro hiq;refine ⟨ps.set i (q,u,t),by rw [zB3];exact h1,by simp;omega,hB,hS,fun j x hx => ?_⟩;by_cases hj:j=i
  ·subst hj;rw [List.getElem?_set_self hiq] at hx;injection hx with hx;subst hx;exact ⟨_,new,rfl,hE⟩
  ·rw [List.getElem?_set_ne (fun e=>hj e.symm)] at hx;exact old j x hj hx
theorem yG3 (w:World) (g:Nat) (cs:Array Value):w.grownBy (w.setRow g cs) (some g):=⟨rfl,rfl,rfl,by simp [World.setRow],fun k _ hk=>setRow_other w g k cs (fun e=>hk (by rw [e]))⟩
theorem yG4 {o:Oper} {a:Act} {w:World} {K:Act->World->Prop} {Q:Exit->Act->World->Prop} {ty:TypeId} {x y:Operand} {g n i:Nat} {qs:List Rat} {q:Rat} {u t:Value} (hd:o.dst=none) (hop:o.op=.store ty x y) (hx:a.eval x=.pointer (some ⟨g,0+i*3,none⟩)) (hy:a.eval y=.agg #[.bool (ngB q.num),u,t])
    (hI:(P.info? ty).map (·.size)=some 3) (hR:zD8 w g n qs) (hi:i<n) (hu:IsS w .u64 u (digs 4294967296 q.num.natAbs)) (ht:IsS w .u64 t (digs 4294967296 q.den))
    (h:∀ w',w.grownBy w' (some g)->(i=qs.length->zD8 w' g n (qs ++ [q]))/\(i<qs.length->zD8 w' g n (qs.set i q))->K a w'):o.wp P a w K Q:=by
  obtain ⟨ps,h1,h2,h3,h4,h5⟩:=id hR
  have one:∀ v∈[Value.bool (ngB q.num),u,t],v.oneCell'=true:=by
    obtain ⟨A,c,rfl,_⟩:=id hu;obtain ⟨D,d,rfl,_⟩:=id ht;exact zI6 rfl rfl rfl
  have hrun:=run_storeCells_at (P:=P) g (0+i*3) 83 [Value.bool (ngB q.num),u,t] 0 (zF1 ps).toArray w h3 (by simp [qG4];omega) one;rw [Nat.add_zero] at hrun
  have key:∀ (A:Addr) (W:World),(storeCells A [Value.bool (ngB q.num),u,t] 0).run P w=.ok () W->(storeVar ty A (.agg #[.bool (ngB q.num),u,t])).run P w=.ok () W:=by
    intro A W hrun
    cases hq:P.info? ty with
    | none=>simp [hq] at hI
    | some inf =>
      have hsz:3=inf.size:=by simp [hq] at hI;omega
      have e:(Value.agg #[.bool (ngB q.num),u,t]).cells=([Value.bool (ngB q.num),u,t]:List Value).toArray:=rfl;simp [storeVar,sizeOf,typeInfo,hq,e,<- hsz,hrun]
  have hst:=key _ _ hrun;unfold Oper.wp execOp;simp only [hop,hx,hy,Instr.storeAt,Instr.sureAddr,Sem.run_bind,Sem.run_pure,Result.andThen_ok,hst,Oper.upon_skip,hd];refine h _ (yG3 _ _ _) (hR.put hi hu ht (yG3 _ _ _) fun cs hcs => ?_);unfold Blk at hcs h3 |-;rw [h3] at hcs;injection hcs with hcs;injection hcs with hcs;subst hcs;exact setRow_heap w g _ _ _ _ h3
theorem yG5 {Q:Exit->Act->World->Prop} {ops:Array Oper} {o:Oper} {j:Nat} {rest:List Nat} {a:Act} {w:World} {ty:TypeId} {x y:Operand} {g n i:Nat} {qs:List Rat} {q:Rat} {u t:Value} (ho:ops[j]?=some o) (hgd:o.guard=none) (hd:o.dst=none) (hop:o.op=.store ty x y) (hx:a.eval x=.pointer (some ⟨g,0+i*3,none⟩)) (hy:a.eval y=.agg #[.bool (ngB q.num),u,t])
  (hI:(P.info? ty).map (·.size)=some 3) (hR:zD8 w g n qs) (hi:i<n) (hu:IsS w .u64 u (digs 4294967296 q.num.natAbs)) (ht:IsS w .u64 t (digs 4294967296 q.den))
  (h:∀ w',w.grownBy w' (some g)->(i=qs.length->zD8 w' g n (qs ++ [q]))/\(i<qs.length->zD8 w' g n (qs.set i q))->wpOps P ops Q rest a w'):wpOps P ops Q (j :: rest) a w :=
 qK0 ho hgd (yG4 hd hop hx hy hI hR hi hu ht h)
theorem jA8 {Q:Exit->Act->World->Prop} {ops:Array Oper} {o:Oper} {fuel j:Nat} {listed:Array Bool} {a:Act} {w:World} {ty:TypeId} {x y:Operand} {g n i:Nat} {qs:List Rat} {q:Rat} {u t:Value} (hr:Region.ready .any ops listed=[j]) (ho:ops[j]?=some o) (hgd:o.guard=none) (hd:o.dst=none) (hop:o.op=.store ty x y) (hx:a.eval x=.pointer (some ⟨g,0+i*3,none⟩)) (hy:a.eval y=.agg #[.bool (ngB q.num),u,t])
  (hI:(P.info? ty).map (·.size)=some 3) (hR:zD8 w g n qs) (hi:i<n) (hu:IsS w .u64 u (digs 4294967296 q.num.natAbs)) (ht:IsS w .u64 t (digs 4294967296 q.den))
  (h:∀ w',w.grownBy w' (some g)->(i=qs.length->zD8 w' g n (qs ++ [q]))/\(i<qs.length->zD8 w' g n (qs.set i q))->wpAny P .any ops Q fuel (listed.setIfInBounds j true) a w'):wpAny P .any ops Q (fuel+1) listed a w :=
 qK hr ho hgd (yG4 hd hop hx hy hI hR hi hu ht h)
end
section
variable {P:Program} {Q:Exit->Act->World->Prop} {ops:Array Oper} {L:List Oper} {Φ : List Pd} {w0:World} {a0:Act} {i:Nat} {o:Oper}
theorem yG6 (f:FuncId):Ev L Φ w0 a0 o (.func f) (fun _ u=>u=.func (.func f) #[] #[]):=fun _ _ _=>rfl
theorem jA9 {ρ : Operand->Value} {f:FuncId} {z:Operand} {xs:Array Operand} {at_:Array TypeId} {w:World} (hop:o.op=.call { callee:=.value z,args:=xs,argTypes:=at_ }) (hρ : ρ z=.func (.func f) #[] #[]) {args:Array Value} (ha:xs.map ρ = args):(execOp ρ o).run P w=(callFunc f args).run P w:=by
 subst ha;unfold execOp;simp [hop,resolve,hρ,Deferred.ofValue,invoke]
theorem qM1 {f : FuncId} {fn : Func} {z x y : Operand} {at_ : Array TypeId} {F G : World -> Value -> Prop} (hop : o.op = .call { callee := .value z, args := #[x, y], argTypes := at_ }) (hz : Ev L Φ w0 a0 o z (fun _ u => u = .func (.func f) #[] #[])) (hf : P.funcs[f]? = some fn) (hB : (!(fn.name == "runtime.NumGoroutine") && fn.body.isSome) = true) (hw : Wt ops L Φ w0 a0 o true)
  (hx:Ev L Φ w0 a0 o x F) (hy:Ev L Φ w0 a0 o y G) (hc:∀ w u v,Below w0.heap.size w0 w->F w u->G w v->Calls P f #[u,v] w (zJ4 (ph Φ i) w)):Ob P Q ops L Φ w0 a0 i o :=
 qJ7 hf hB hw (by unfold isA;rw [hop]) fun ms w hS=>⟨#[(zE2 a0 L ms).eval x,(zE2 a0 L ms).eval y],jA9 hop (hz ms w hS) (by simp),hc w _ _ hS.below (hx ms w hS) (hy ms w hS)⟩
end
def RetRN (qs:List Rat) (w:World) (e:Ending) (w':World):Prop:=∃ g,e=.returned (.tuple #[.slice (some ⟨g,0,none⟩) qs.length qs.length,.int .i64 0])/\zD8 w' g qs.length qs/\w.heap.size<=g/\Below w.heap.size w w'
section
variable {P:Program} {Q:Exit->Act->World->Prop} {ops:Array Oper} {L:List Oper} {Φ : List Pd} {w0:World} {a0:Act} {i:Nat} {o:Oper}
end
theorem qB5.row {w w':World} {g G n:Nat} {ls:List Rat} {s:Rat} (h:qB5 w G s) (hR:zD8 w g n ls) (hg:w.grownBy w' (some g)) (hR':zD8 w' g n (ls ++ [s])):qB5 w' G s:=by
 obtain ⟨u,t,h1,h2,h3⟩:=h;by_cases e:g=G
 ·subst e;obtain ⟨ps,k1,k2,k3,k4,k5⟩:=id hR
  have e1:ps.length=1:=by
   unfold Blk at k3 h1;rw [k3] at h1;injection h1 with h1;injection h1 with h1
   have:=congrArg Array.size h1
   rw [List.size_toArray,qG4] at this;simp at this;omega
  obtain ⟨rs,r1,r2,r3,r4,r5⟩:=hR'
  have e2:ls=[]:=by
   rw [zA8,List.length_singleton] at r2;exact List.length_eq_zero_iff.1 (by omega)
  subst e2;obtain ⟨p,q1,q2,q3⟩:=r5 0 s rfl;obtain ⟨r,rfl⟩:∃ r,rs=[r]:=List.length_eq_one_iff.1 (by omega);obtain rfl:r=p:=by simpa using q1
  subst q2;exact ⟨r.2.1,r.2.2,r3,q3.1,q3.2⟩
 ·exact ⟨u,t,h1.grown hg (fun e'=>e e'.symm),hR.keep hg h2,hR.keep hg h3⟩
theorem zR2 (g i:Nat):(⟨g,0,none⟩:Addr).add i=⟨g,i,none⟩:=by
 unfold Addr.add;by_cases h:i=0
 ·simp [h]
 ·simp [h]
def zG9 (w:World) (g:Nat) (TS:TypeId) (us:List Value):Prop:=Blk w g TS us.toArray /\ ∀ u∈us,∃ A n c,u=.slice A n c
theorem zG9.below {w w':World} {g:Nat} {TS:TypeId} {us:List Value} (h:zG9 w g TS us) (hb:Below w.heap.size w w'):zG9 w' g TS us:=⟨h.1.below hb,h.2⟩
theorem zG9.lt {w:World} {g:Nat} {TS:TypeId} {us:List Value} (h:zG9 w g TS us):g<w.heap.size:=h.1.lt
theorem zG9.cell {w:World} {g:Nat} {TS:TypeId} {us:List Value} (h:zG9 w g TS us) {i:Nat} {u:Value} (hu:us[i]?=some u):w.cell? ((⟨g,0,none⟩:Addr).add i)=some u:=by
 rw [zR2,h.1.cell,List.getElem?_toArray];exact hu
theorem zG9.keep {w w':World} {g:Nat} {TS:TypeId} {us:List Value} {k:IntKind} {v:Value} {l:List Nat} (h:zG9 w g TS us) (hg:w.grownBy w' (some g)) (hs:IsS w k v l):IsS w' k v l :=
 Go.Proofs.YtagaabooccnamaaGreat.flow.off hs h.1 (fun c hc n e=>by
  obtain ⟨A,m,d,e1⟩:=h.2 c (List.mem_toArray.1 hc);rw [e1] at e;cases e) hg
theorem zG9.keepF {w w':World} {g:Nat} {TS:TypeId} {us:List Value} {k:IntKind} {B:Nat} {v:Value} {r:List Rat} (h:zG9 w g TS us) (hg:w.grownBy w' (some g)) (hs:SlF k B w v r):SlF k B w' v r:=by
 obtain ⟨ps,h1,⟨A,c,e,h2,h3,h4⟩,h5⟩:=hs;refine ⟨ps,h1,⟨A,c,e,h2,h3,fun i p hp => ?_⟩,fun p hp=>⟨h.keep hg (h5 p hp).1,h.keep hg (h5 p hp).2⟩⟩;obtain ⟨g',o,e2,c0,c1,c2⟩:=h4 i p hp
 have hne:some g'≠some g:=by
  intro e3;injection e3 with e3;subst e3;rw [h.1.cell,List.getElem?_toArray] at c0;obtain ⟨A',m,d,e4⟩:=h.2 _ (zA5 c0);cases e4
 exact ⟨g',o,e2,hg.cell c0 hne,hg.cell c1 hne,hg.cell c2 hne⟩
theorem zG9.put {w w':World} {g i:Nat} {TS:TypeId} {us:List Value} {u:Value} (h:zG9 w g TS us) (hB:w'.heap[g]?=some (.cells (us.toArray.setIfInBounds i u) TS (0,0))) (hu:∃ A n c,u=.slice A n c):zG9 w' g TS (us.set i u):=by
 refine ⟨by unfold Blk;rw [hB];simp,fun v hv => ?_⟩;rcases List.mem_or_eq_of_mem_set hv with hv | rfl
 ·exact h.2 v hv
 ·exact hu
theorem zG9.grown {w w':World} {g:Nat} {TS:TypeId} {us:List Value} {row:Option Nat} (h:zG9 w g TS us) (hg:w.grownBy w' row) (hne:row≠some g):zG9 w' g TS us :=
 ⟨(hg.block g h.1.lt (fun e=>hne e.symm)).trans h.1,h.2⟩
def zE4 (k:IntKind) (B:Nat) (w:World) (g:Nat) (TS:TypeId) (us:List Value) (t:List (List Rat)):Prop:=zG9 w g TS us/\us.length=t.length /\ ∀ (i:Nat) (u:Value) (r:List Rat),us[i]?=some u->t[i]?=some r->SlF k B w u r
theorem zE4.below {k:IntKind} {B:Nat} {w w':World} {g:Nat} {TS:TypeId} {us:List Value} {t:List (List Rat)} (h:zE4 k B w g TS us t) (hb:Below w.heap.size w w'):zE4 k B w' g TS us t:=⟨h.1.below hb,h.2.1,fun i u r hu hr=>(h.2.2 i u r hu hr).below hb⟩
theorem zE4.drew {k:IntKind} {B:Nat} {w:World} {g:Nat} {TS:TypeId} {us:List Value} {t:List (List Rat)} (h:zE4 k B w g TS us t):zE4 k B w.drew g TS us t:=h.below (Below.refl _ w).drew
theorem zE4.lt {k:IntKind} {B:Nat} {w:World} {g:Nat} {TS:TypeId} {us:List Value} {t:List (List Rat)} (h:zE4 k B w g TS us t):g<w.heap.size:=h.1.lt
theorem zE4.put {k:IntKind} {B:Nat} {w w':World} {g i:Nat} {TS:TypeId} {us:List Value} {t:List (List Rat)} {u:Value} {r:List Rat} (h:zE4 k B w g TS us t) (hg:w.grownBy w' (some g)) (hB:w'.heap[g]?=some (.cells (us.toArray.setIfInBounds i u) TS (0,0))) (hu:SlF k B w u r):zE4 k B w' g TS (us.set i u) (t.set i r):=by
 obtain ⟨A,c,eu,_⟩:=hu.shape;refine ⟨h.1.put hB ⟨_,_,_,eu⟩,by rw [zB3,zB3];exact h.2.1,fun j x y hx hy => ?_⟩;by_cases hj:i=j
 ·subst hj;have hi:i<us.length:=by have:=(zA4.1 hx).1;rwa [zB3] at this
  rw [List.getElem?_set_self hi] at hx;rw [List.getElem?_set_self (by rw [<- h.2.1];exact hi)] at hy;injection hx with hx;injection hy with hy;subst hx;subst hy;exact h.1.keepF hg hu
 ·rw [List.getElem?_set_ne hj] at hx hy;exact h.1.keepF hg (h.2.2 j x y hx hy)
theorem zE4.slT {k:IntKind} {B:Nat} {w:World} {g n:Nat} {TS:TypeId} {us:List Value} {t:List (List Rat)} (h:zE4 k B w g TS us t) (hn:t.length=n) (hm:n<=1000000000):SlT k B w (.slice (some ⟨g,0,none⟩) n n) t :=
 ⟨us,h.2.1,⟨some ⟨g,0,none⟩,n,by rw [h.2.1,hn],by rw [h.2.1,hn];exact zB4 _,by unfold maxLen;omega,fun i u hu=>⟨_,rfl,h.1.cell hu⟩⟩,h.2.2⟩
section
variable {P:Program}
theorem qM2 {w:World} {t TS:TypeId} (ht:P.underlying t=some (.slice TS)) (hI:∃ i,P.info? TS=some i/\i.zero=some (.slice none 0 0)/\i.size=1/\i.bytes=24) (n:Nat) (hn:n<=1000000000) :
  ∃ w',(Instr.makeSlice t (.int .i64 (n:Int)) (.int .i64 (n:Int))).run P w=.ok (.slice (some ⟨w.heap.size,0,none⟩) n n) w'/\zG9 w' w.heap.size TS (zB n (.slice none 0 0))/\Below w.heap.size w w':=by
 obtain ⟨i,hi,hz,hs,hb⟩:=hI;obtain ⟨w',h1,h2,h3⟩:=run_make_full (P:=P) w w.heap.size t TS i _ 1 ht hi hz hs .i64 .i64 n (by rw [hb];omega) (by unfold maxLen;omega) (zB4 _);refine ⟨w',h1,⟨?_,fun u hu=>⟨_,_,_,(List.mem_replicate.1 hu).2⟩⟩,(Below.refl _ w).grown h3 (zB4 _) (fun g hg=>by cases hg)⟩;obtain ⟨hl,h2⟩:=h2;rcases h2 with ⟨h4,_⟩|⟨g,cap,cur,h4,_,h5,_,_,h6,h7⟩
 ·cases h4
 ·injection h4 with h4 _ h8;injection h4 with h4;injection h4 with h4 _ _;subst h4;subst h8;rw [zA7 (by simp [h6])] at h7
  have e:cur=(zB n (Value.slice none 0 0)).toArray:=by
   have e1:(madeCells (Value.slice none 0 0).cells (n*1)).toList=zB n (.slice none 0 0):=by rw [Nat.mul_one];exact toList_madeCells_one _ _
   rw [<- e1,<- h7]
  rw [<- e];exact h5
end
end Go.Proofs.YtagaabooccnamaaGreat.rat
namespace Go.Proofs.YtagaabooccnamaaGreat.flow
open Go.RowKit num mem whl rat
def pbar (n:Nat) (TS:TypeId) (B:Nat):Pd:=⟨fun w v => ∃ g,v=.slice (some ⟨g,0,none⟩) n n/\zG9 w g TS (zB n (.slice none 0 0))/\B<=g,fun h hb=>by obtain ⟨g,e,h1,h2⟩:=h;exact ⟨g,e,h1.below hb,h2⟩⟩
section
variable {P:Program} {Q:Exit->Act->World->Prop} {ops:Array Oper} {L:List Oper} {Φ : List Pd} {w0:World} {a0:Act} {i:Nat} {o:Oper}
theorem jB {t TS:TypeId} {x y:Operand} (n:Nat) (hop:o.op=.makeSlice t x y) (hg:o.guard=none) (hx:Ev L Φ w0 a0 o x (fun _ u=>u=.int .i64 (n:Int))) (hy:Ev L Φ w0 a0 o y (fun _ u=>u=.int .i64 (n:Int))) (ht:P.underlying t=some (.slice TS)) (hI:∃ i,P.info? TS=some i/\i.zero=some (.slice none 0 0)/\i.size=1/\i.bytes=24) (hn:n<=1000000000)
  (hP:∀ w v,(pbar n TS w0.heap.size).p w v->(ph Φ i).p w v):Ob P Q ops L Φ w0 a0 i o:=by
 intro ms w hS;rw [if_pos (zB7 (ops:=ops) (L:=L) (Φ:=Φ) (w0:=w0) (a0:=a0) hg ms w hS)];obtain ⟨w',h1,h2,h3⟩:=qM2 (P:=P) (w:=w) ht hI n hn
 have hr:(execOp (zE2 a0 L ms).eval o).run P w=.ok (.value (.slice (some ⟨w.heap.size,0,none⟩) n n)) w':=by
  unfold execOp;simp only [hop,hx ms w hS,hy ms w hS,Sem.run_bind,h1,Result.andThen_ok]
  rfl
 unfold Oper.wp;rw [hr];exact ⟨_,rfl,h3,hP _ _ ⟨_,rfl,h2,hS.below.size⟩,fun h=>by unfold isA at h;rw [hop] at h;cases h⟩
end
end Go.Proofs.YtagaabooccnamaaGreat.flow
namespace Go.Proofs.YtagaabooccnamaaGreat.rat
open Go.RowKit num mem nat txt str flow whl
structure TabO (k:IntKind) (B:Nat) (T:TypeId) (w:World) (base:Nat) (TS:TypeId) (V:Value) (us:List Value) (pss:List (List Elt)):Prop where
 row:zD6 w base TS V us
 len:us.length=pss.length
 own:∀ (i:Nat) (u:Value) (ps:List Elt),us[i]?=some u->pss[i]?=some ps->zD4 T w base u ps
 far:∀ u∈us,∀ ps∈pss,zH0 k B w u ps
 farV:∀ ps∈pss,zH0 k B w V ps
 apart:∀ (i j:Nat) (u v:Value),i≠j->us[i]?=some u->us[j]?=some v -> ∀ h,u.ownBlock=some h->v.ownBlock≠some h
theorem TabO.below {k:IntKind} {B:Nat} {T:TypeId} {w w':World} {base:Nat} {TS:TypeId} {V:Value} {us:List Value} {pss:List (List Elt)} (h:TabO k B T w base TS V us pss) (hb:Below w.heap.size w w'):TabO k B T w' base TS V us pss :=
 ⟨h.row.below hb,h.len,fun i u ps hu hp=>(h.own i u ps hu hp).below hb,fun u hu ps hp=>(h.far u hu ps hp).below hb,fun ps hp=>(h.farV ps hp).below hb,h.apart⟩
def zF4 (pss:List (List Elt)):List (List Rat):=pss.map fun ps=>ps.map (·.1)
theorem TabO.slT {k:IntKind} {B:Nat} {T:TypeId} {w:World} {base:Nat} {TS:TypeId} {V:Value} {us:List Value} {pss:List (List Elt)} (h:TabO k B T w base TS V us pss):SlT k B w V (zF4 pss):=by
  refine ⟨us,by rw [zF4,zA9];exact h.len,?_,fun i u r hu hr => ?_⟩
  · rcases h.row.2 with ⟨rfl,h0⟩|⟨g,cap,cur,rfl,_,hg,hn,hm,_,_⟩
    · obtain rfl:us=[]:=List.length_eq_zero_iff.1 h0;exact ⟨none,0,rfl,by simp,by unfold maxLen;omega,fun i u hu=>by simp at hu⟩
    · exact ⟨_,cap,rfl,hn,hm,fun i u hu=>⟨_,rfl,World.ownsRow.cells h.row (g:=g) rfl i u hu⟩⟩
  rw [zF4,zB1] at hr
  cases hp:pss[i]? with
  | none=>rw [hp] at hr;cases hr
  | some ps =>
    rw [hp] at hr;obtain rfl:ps.map (·.1)=r:=by simpa using hr
    exact (h.own i u ps hu hp).sl (h.far u (zA5 hu) ps (zA5 hp))
theorem zG9.rowV {w:World} {base g n:Nat} {TS:TypeId} {us:List Value} (h:zG9 w g TS us) (hn:us.length=n) (hb:base<=g) (hm:n<=1000000000):zD6 w base TS (.slice (some ⟨g,0,none⟩) n n) us:=by
 unfold zD6;rw [hn];exact ⟨by simp [hn],.inr ⟨g,n,us.toArray,rfl,hb,h.1,zB4 _,by unfold maxLen;omega,by simp [hn],by simp [<- hn]⟩⟩
theorem zG9.owned {k:IntKind} {B:Nat} {T:TypeId} {w:World} {base g n:Nat} {TS:TypeId} (h:zG9 w g TS (zB n (.slice none 0 0))) (hb:base<=g) (hm:n<=1000000000):TabO k B T w base TS (.slice (some ⟨g,0,none⟩) n n) (zB n (.slice none 0 0)) (zB n []):=by
 have key:∀ u∈zB n (Value.slice none 0 0),u=.slice none 0 0:=fun u hu=>(List.mem_replicate.1 hu).2;refine ⟨h.rowV (by simp) hb hm,by simp,fun i u ps hu hp => ?_,fun u hu ps hp => ?_,fun ps hp => ?_,fun i j u v _ hu hv q hq => ?_⟩
 ·have h1:=key u (zA5 hu);have h2:=(List.mem_replicate.1 (zA5 hp)).2;subst h1;subst h2;exact yD6 _ _ _
 ·rw [(List.mem_replicate.1 hp).2];exact zH0.nil _ _ _ _
 ·rw [(List.mem_replicate.1 hp).2];exact zH0.nil _ _ _ _
 ·rw [key u (zA5 hu)] at hq;cases hq
theorem zD4.notRow {T TS:TypeId} {w:World} {base base':Nat} {v V:Value} {ps:List Elt} {us:List Value} (h:zD4 T w base v ps) (hV:zD6 w base' TS V us) (hne:T≠TS):∀ g,v.ownBlock=some g->V.ownBlock≠some g:=by
 intro g e e2;rcases h.2 with ⟨rfl,_⟩|⟨g',cap,cur,rfl,_,hg,_⟩
 ·cases e
 ·rcases hV.2 with ⟨rfl,_⟩|⟨g2,cap2,cur2,rfl,_,hg2,_⟩
  ·cases e2
  ·have e1:g'=g:=by simpa [Value.ownBlock] using e
   have e3:g2=g:=by simpa [Value.ownBlock] using e2
   subst e1;subst e3;rw [hg] at hg2;injection hg2 with hg2;injection hg2 with _ hg2;exact hne hg2
theorem zS3 {α : Type} {l:List α} {i j:Nat} {a x : α} (h:(l.set i a)[j]?=some x):(i=j/\x=a)\/(i≠j/\l[j]?=some x):=by
 by_cases e:i=j
 ·subst e;have hi:i<l.length:=by have:=(zA4.1 h).1;rwa [zB3] at this
  rw [List.getElem?_set_self hi] at h;injection h with h;exact .inl ⟨rfl,h.symm⟩
 ·rw [List.getElem?_set_ne e] at h;exact .inr ⟨e,h⟩
theorem TabO.put {k:IntKind} {B:Nat} {T:TypeId} {w w1:World} {base g n c i:Nat} {TS:TypeId} {us:List Value} {pss:List (List Elt)} {u u':Value} {ps new:List Elt} (hT:T≠TS) (h:TabO k B T w base TS (.slice (some ⟨g,0,none⟩) n c) us pss) (hu:us[i]?=some u) (hps:pss[i]?=some ps) (hrow:zD4 T w1 base u' (ps ++ new)) (hgr:zH5 w w1 u u') (hnew:zH0 k B w1 u' new) (hfar:∀ v∈us,∀ p∈new,Far v p.2.1/\Far v p.2.2) (hfarV:∀ p∈new,Far (.slice (some ⟨g,0,none⟩) n c) p.2.1/\Far (.slice (some ⟨g,0,none⟩) n c) p.2.2) :
  TabO k B T (w1.setCell ⟨g,i,none⟩ u') base TS (.slice (some ⟨g,0,none⟩) n c) (us.set i u') (pss.set i (ps ++ new)):=by
 obtain ⟨k1,k2,k3⟩:=hgr;have hui:=h.own i u ps hu hps;have hs:=zE7 w1 g i u';have hV:Value.ownBlock (.slice (some ⟨g,0,none⟩) n c)=some g:=rfl;have hng:u.ownBlock≠some g:=fun e=>hui.notRow h.row hT g e hV;have ht1:zD6 w1 base TS (.slice (some ⟨g,0,none⟩) n c) us:=World.ownsRow.kept (row:=u.ownBlock) h.row k2 (.inr (by rw [hV];exact fun e=>hng e.symm));have hum:=zA5 hu;have off2:∀ {l:List Nat} {x:Value},IsS w1 k x l->Far (.slice (some ⟨g,0,none⟩) n c) x->IsS (w1.setCell ⟨g,i,none⟩ u') k x l:=fun a b=>a.farKept b hs
 have lift:∀ p,IsE k B w p->Far u p.2.1->Far u p.2.2->Far (.slice (some ⟨g,0,none⟩) n c) p.2.1->Far (.slice (some ⟨g,0,none⟩) n c) p.2.2->IsE k B (w1.setCell ⟨g,i,none⟩ u') p/\Far u' p.2.1/\Far u' p.2.2:=fun p a b c d e=>by
  have x1:=k1 _ _ _ a.1 b;have x2:=k1 _ _ _ a.2 c;exact ⟨⟨off2 x1.1 d,off2 x2.1 e⟩,x1.2,x2.2⟩
 have hall:∀ qs∈pss.set i (ps ++ new),∀ p∈qs,IsE k B (w1.setCell ⟨g,i,none⟩ u') p/\(Far u' p.2.1/\Far u' p.2.2)/\(∀ v∈us,Far v p.2.1/\Far v p.2.2)/\Far (.slice (some ⟨g,0,none⟩) n c) p.2.1/\Far (.slice (some ⟨g,0,none⟩) n c) p.2.2:=by
  intro qs hqs p hp
  have hpq:(p∈new) \/ ∃ qs'∈pss,p∈qs':=by
   rcases List.mem_or_eq_of_mem_set hqs with hqs | rfl
   ·exact .inr ⟨qs,hqs,hp⟩
   ·rcases List.mem_append.1 hp with hp | hp
    ·exact .inr ⟨ps,zA5 hps,hp⟩
    ·exact .inl hp
  rcases hpq with hp | ⟨qs',hq',hp⟩
  ·obtain ⟨e1,f1,f2⟩:=hnew p hp;have fV:=hfarV p hp;exact ⟨⟨off2 e1.1 fV.1,off2 e1.2 fV.2⟩,⟨f1,f2⟩,fun v hv=>hfar v hv p hp,fV⟩
  ·obtain ⟨e1,f1,f2⟩:=h.far u hum qs' hq' p hp;have fV:=(h.farV qs' hq' p hp).2;obtain ⟨e2,f3,f4⟩:=lift p e1 f1 f2 fV.1 fV.2;exact ⟨e2,⟨f3,f4⟩,fun v hv=>(h.far v hv qs' hq' p hp).2,fV⟩
 refine ⟨ht1.stored i u',by rw [zB3,zB3];exact h.len,fun j x y hx hy => ?_,fun v hv qs hqs p hp => ?_,fun qs hqs p hp=>⟨(hall qs hqs p hp).1,(hall qs hqs p hp).2.2.2⟩,fun a b x y hab hx hy q hq hq2 => ?_⟩
 ·rcases zS3 hx with ⟨rfl,rfl⟩|⟨hj,hx⟩
  ·rcases zS3 hy with ⟨_,rfl⟩|⟨hj,_⟩
   ·exact hrow.other hs fun q hq e=>hrow.notRow ht1 hT q hq e
   ·exact absurd rfl hj
  ·rcases zS3 hy with ⟨e,_⟩|⟨_,hy⟩
   ·exact absurd e hj
   ·have r0:=h.own j x y hx hy;have r1:=r0.other k2 fun q hq e=>h.apart i j u x hj hu hx q e hq;exact r1.other hs fun q hq e=>r1.notRow ht1 hT q hq e
 ·obtain ⟨e1,f1,f2,_⟩:=hall qs hqs p hp;refine ⟨e1,?_⟩;rcases List.mem_or_eq_of_mem_set hv with hv | rfl
  ·exact f2 v hv
  ·exact f1
 ·rcases zS3 hx with ⟨rfl,rfl⟩|⟨ha,hx1⟩
  ·rcases zS3 hy with ⟨e,_⟩|⟨_,hy⟩
   ·exact hab e
   ·obtain ⟨pb,hpb⟩:∃ pb,pss[b]?=some pb:=⟨_,zA3 (by rw [<- h.len];exact (zA4.1 hy).1)⟩;have hlt:=(h.own b y pb hy hpb).under q hq2;exact k3 q hlt (fun e=>h.apart i b u y hab hu hy q e hq2) hq
  ·rcases zS3 hy with ⟨rfl,rfl⟩|⟨hb,hy1⟩
   ·obtain ⟨pa,hpa⟩:∃ pa,pss[a]?=some pa:=⟨_,zA3 (by rw [<- h.len];exact (zA4.1 hx1).1)⟩;have hlt:=(h.own a x pa hx1 hpa).under q hq;exact k3 q hlt (fun e=>h.apart i a u x ha hu hx1 q e hq) hq2
   ·exact h.apart a b x y hab hx1 hy1 q hq hq2
theorem TabO.cell {k:IntKind} {B:Nat} {T:TypeId} {w:World} {base g n c:Nat} {TS:TypeId} {us:List Value} {pss:List (List Elt)} (h:TabO k B T w base TS (.slice (some ⟨g,0,none⟩) n c) us pss) {i:Nat} {u:Value} (hu:us[i]?=some u):w.cell? ⟨g,i,none⟩=some u:=h.row.cellAt hu
theorem TabO.farNew {k:IntKind} {B:Nat} {T:TypeId} {w:World} {base:Nat} {TS:TypeId} {V:Value} {us:List Value} {pss:List (List Elt)} (h:TabO k B T w base TS V us pss) {x:Value} (hx:zE3 w.heap.size x):(∀ v∈us,Far v x)/\Far V x:=by
 refine ⟨fun v hv => ?_,hx.far h.row.under⟩;obtain ⟨i,hi⟩:=List.mem_iff_getElem?.1 hv;obtain ⟨ps,hp⟩:∃ ps,pss[i]?=some ps:=⟨_,zA3 (by rw [<- h.len];exact (zA4.1 hi).1)⟩;exact hx.far (h.own i v ps hi hp).under
theorem jB0 (pss:List (List Elt)) (i:Nat) (ps:List Elt):zF4 (pss.set i ps)=(zF4 pss).set i (ps.map (·.1)):=by rw [zF4,List.map_set];rfl
theorem valq_at {pss:List (List Elt)} {i:Nat} {ps:List Elt} (h:pss[i]?=some ps):(zF4 pss)[i]?=some (ps.map (·.1)):=by rw [zF4,zB1,h];rfl
theorem qG5 (pss:List (List Elt)):(zF4 pss).length=pss.length:=zA9 _
theorem jB1 (n:Nat):zF4 (zB n [])=zB n []:=by rw [zF4,List.map_replicate];rfl
def zO6 (w:World) (v:Value) (ts:List (List (List Rat))):Prop:=∃ us:List Value,us.length=ts.length/\IsV w v us/\us.length<=1000000 /\ ∀ (i:Nat) (u:Value) (t:List (List Rat)),us[i]?=some u->ts[i]?=some t->SlT .u64 4294967296 w u t
theorem zO6.below {w w':World} {v:Value} {ts:List (List (List Rat))} (h:zO6 w v ts) (hb:Below w.heap.size w w'):zO6 w' v ts:=by
 obtain ⟨us,h1,h2,h3,h4⟩:=h;exact ⟨us,h1,h2.below hb,h3,fun i u t hu ht=>(h4 i u t hu ht).below hb⟩
theorem zO6.shape {w:World} {v:Value} {ts:List (List (List Rat))} (h:zO6 w v ts):∃ A c,v=.slice A ts.length c/\ts.length<=c:=by
 obtain ⟨us,h1,⟨A,c,e,h2,_⟩,_⟩:=h;exact ⟨A,c,by rw [e,h1],by omega⟩
theorem zO6.at_ {w:World} {A:Option Addr} {n c i:Nat} {ts:List (List (List Rat))} {t:List (List Rat)} (h:zO6 w (.slice A n c) ts) (hr:ts[i]?=some t):∃ ad Ar cr,A=some ad/\i<n/\w.cell? (ad.add i)=some (.slice Ar t.length cr)/\SlT .u64 4294967296 w (.slice Ar t.length cr) t:=by
 obtain ⟨us,h1,⟨A',c',e,h2,h3⟩,_,h5⟩:=h;injection e with e1 e2 e3;subst e1;subst e2;subst e3;have hi:i<us.length:=by have:=(zA4.1 hr).1;omega
 obtain ⟨ad,ha,hc⟩:=h3 i _ (zA3 hi);have hs:=h5 i _ t (zA3 hi) hr;obtain ⟨Ar,cr,e,_,_⟩:=hs.shape;rw [e] at hc hs;exact ⟨ad,Ar,cr,ha,hi,hc,hs⟩
theorem SlT.place {k:IntKind} {B:Nat} {w:World} {A:Option Addr} {n c:Nat} {t:List (List Rat)} (h:SlT k B w (.slice A n c) t) (hne:t≠[]):∃ ad,A=some ad:=by
 obtain ⟨r,hr⟩:∃ r,t[0]?=some r:=⟨_,zA3 (List.length_pos_iff.2 hne)⟩;obtain ⟨ad,_,_,e,_⟩:=h.at_ hr;exact ⟨ad,e⟩
theorem SlT.at2 {k:IntKind} {B:Nat} {w:World} {ad:Addr} {n c i:Nat} {t:List (List Rat)} {r:List Rat} (h:SlT k B w (.slice (some ad) n c) t) (hr:t[i]?=some r):∃ Ar cr,i<n/\w.cell? (ad.add i)=some (.slice Ar r.length cr)/\SlF k B w (.slice Ar r.length cr) r:=by
 obtain ⟨ad',Ar,cr,e,h1,h2,h3⟩:=h.at_ hr;injection e with e;subst e;exact ⟨Ar,cr,h1,h2,h3⟩
theorem zO6.place {w:World} {A:Option Addr} {n c:Nat} {ts:List (List (List Rat))} (h:zO6 w (.slice A n c) ts) (hne:ts≠[]):∃ ad,A=some ad:=by
 obtain ⟨r,hr⟩:∃ r,ts[0]?=some r:=⟨_,zA3 (List.length_pos_iff.2 hne)⟩;obtain ⟨ad,_,_,e,_⟩:=h.at_ hr;exact ⟨ad,e⟩
theorem zO6.at2 {w:World} {ad:Addr} {n c i:Nat} {ts:List (List (List Rat))} {t:List (List Rat)} (h:zO6 w (.slice (some ad) n c) ts) (hr:ts[i]?=some t):∃ Ar cr,i<n/\w.cell? (ad.add i)=some (.slice Ar t.length cr)/\SlT .u64 4294967296 w (.slice Ar t.length cr) t:=by
 obtain ⟨ad',Ar,cr,e,h1,h2,h3⟩:=h.at_ hr;injection e with e;subst e;exact ⟨Ar,cr,h1,h2,h3⟩
theorem slT_one {k:IntKind} {B:Nat} {w:World} {v u:Value} {r:List Rat} (h:IsV w v [u]) (hs:SlF k B w u r) (hc:∀ A n c,v=.slice A n c->c<=maxLen):SlT k B w v [r]:=by
 obtain ⟨A,c,e,h2,h3⟩:=h;refine ⟨[u],rfl,⟨A,c,e,h2,hc _ _ _ e,h3⟩,fun i x y hx hy => ?_⟩;rcases i with _ | i
 ·obtain rfl:u=x:=by simpa using hx
  obtain rfl:r=y:=by simpa using hy
  exact hs
 ·simp at hx
section
variable {P:Program} {Q:Exit->Act->World->Prop} {ops:Array Oper} {L:List Oper} {Φ : List Pd} {w0:World} {a0:Act} {i:Nat} {o:Oper}
end
def RetRo (qs:List Rat) (w:World) (e:Ending) (w':World):Prop:=∃ g,e=.returned (.slice (some ⟨g,0,none⟩) qs.length qs.length)/\zD8 w' g qs.length qs/\w.heap.size<=g/\Below w.heap.size w w'
end Go.Proofs.YtagaabooccnamaaGreat.rat
