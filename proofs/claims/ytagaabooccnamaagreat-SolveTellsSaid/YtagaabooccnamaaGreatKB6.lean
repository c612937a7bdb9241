/- Rows of one-cell elements that a call makes by append, all of whose cells, also those behind the last element, are of one sort; what of fractions stay. Condition: as each says. -/
import Derived.Test.YtagaabooccnamaaGreatKB5
import Derived.RangeFuncFrom
import Derived.RangeFuncCalls
import Derived.RangeFuncLeaves
import Derived.Shelf.Abstract
import Derived.Shelf.RegionOpen
import Derived.WalkKit
import Derived.OwnWalkIn
import Derived.TacticsInMore
import Derived.LoopNIn
import Derived.LoopIn
import Derived.OwnWalk
import Derived.Deep.RegionHeld
import Derived.BigQuiet
open Go.Proofs.Tryz
open Go.Lib renaming hid -> hQ9
set_option linter.unusedVariables false
set_option linter.unusedSimpArgs false
set_option maxRecDepth 100000
set_option maxHeartbeats 6400000
open And renaming intro -> zA
open List renaming setIfInBounds_toArray -> zA0, set_cons_succ -> zA1, set_cons_zero -> zA2, getElem?_eq_getElem -> zA3, getElem?_eq_some_iff -> zA4, mem_of_getElem? -> zA5, getD_eq_getElem?_getD -> zA6, take_of_length_le -> zA7, length_append -> zA8, length_map -> zA9, replicate -> zB, getElem?_append_left -> zB0, getElem?_map -> zB1, length_take -> zB2, length_set -> zB3
open Nat renaming le_refl -> zB4, le_trans -> zB5, mul_assoc -> zB6
namespace Go.Proofs.YtagaabooccnamaaGreat.rat
open Go.RowKit num mem nat txt str flow whl
def zE (S:Value->Prop) (w:World) (base:Nat) (e:TypeId) (v:Value) (vs:List Value):Prop:=zD6 w base e v vs /\ ∀ g,v.ownBlock=some g -> ∃ cs,w.heap[g]?=some (.cells cs e (0,0)) /\ ∀ c∈cs,S c
theorem zE.grown {S:Value->Prop} {w w':World} {base:Nat} {e:TypeId} {v:Value} {vs:List Value} {row:Option Nat} (h:zE S w base e v vs) (hg:w.grownBy w' row) (hne:∀ g,v.ownBlock=some g->row≠some g):zE S w' base e v vs:=by
 refine ⟨zD6.kept h.1 hg hne,fun g e1 => ?_⟩;obtain ⟨cs,h1,h2⟩:=h.2 g e1;exact ⟨cs,(hg.block g (h.1.under g e1) (fun e2=>hne g e1 e2.symm)).trans h1,h2⟩
theorem zE.below {S:Value->Prop} {w w':World} {base:Nat} {e:TypeId} {v:Value} {vs:List Value} (h:zE S w base e v vs) (hb:Below w.heap.size w w'):zE S w' base e v vs:=by
 refine ⟨h.1.below hb,fun g e1 => ?_⟩;obtain ⟨cs,h1,h2⟩:=h.2 g e1;exact ⟨cs,(hb.block g (h.1.under g e1)).trans h1,h2⟩
theorem jD6 (S:Value->Prop) (w:World) (base:Nat) (e:TypeId):zE S w base e (.slice none 0 0) []:=⟨⟨rfl,.inl ⟨rfl,rfl⟩⟩,fun g h=>by cases h⟩
theorem SlF.keepX {k:IntKind} {B:Nat} {w w':World} {v:Value} {r:List Rat} {g:Nat} {e:TypeId} {cs:Array Value} (h:SlF k B w v r) (hB:w.heap[g]?=some (.cells cs e (0,0))) (hb:∀ c∈cs,∀ b,c ≠ .bool b) (hi:∀ c∈cs,∀ n,c ≠ .int k n) (hg:w.grownBy w' (some g)):SlF k B w' v r:=by
 obtain ⟨ps,h1,⟨A,c,e1,h2,h3,h4⟩,h5⟩:=h;refine ⟨ps,h1,⟨A,c,e1,h2,h3,fun i p hp => ?_⟩,fun p hp=>⟨Go.Proofs.YtagaabooccnamaaGreat.flow.off (h5 p hp).1 hB hi hg,Go.Proofs.YtagaabooccnamaaGreat.flow.off (h5 p hp).2 hB hi hg⟩⟩;obtain ⟨g',o,e2,c0,c1,c2⟩:=h4 i p hp
 have hne:some g'≠some g:=by
  intro e3;injection e3 with e3;subst e3;rw [cell_of_row w g' _ cs e (0,0) hB] at c0;exact hb _ (Array.mem_of_getElem? c0) _ rfl
 exact ⟨g',o,e2,hg.cell c0 hne,hg.cell c1 hne,hg.cell c2 hne⟩
def isI (v:Value):Prop:=∃ n,v=.int .i64 n
section
variable {P:Program}
theorem jD7 {w:World} {base:Nat} {t ty e:TypeId} (hT:P.underlying t=some (.slice e)) (hI:∃ i,P.info? e=some i/\i.zero=some (.int .i64 0)/\i.size=1/\i.bytes=8) {v:Value} {vs news:List Value} (hown:zE isI w base e v vs) {ad:Addr} {m c:Nat} (hm:m=news.length) (hm0:0<m)
  (hr:∀ (i:Nat) (u:Value),news[i]?=some u->w.cell? (ad.add i)=some u) (h1:∀ u∈news,isI u) (hlen:vs.length+m<=1000000000) (hbase:base<=w.heap.size) :
  ∃ v' w',(Builtin.append_ #[t,t] ty #[v,.slice (some ad) m c]).run P w=.ok v' w'/\zE isI w' base e v' (vs ++ news)/\w.grownBy w' v.ownBlock/\(v'.ownBlock=v.ownBlock\/v'.ownBlock=some w.heap.size):=by
 obtain ⟨i,hi,hz,hs,hby⟩:=hI;subst hm;have one:∀ u∈news,u.oneCell'=true:=fun u hu=>by obtain ⟨n,rfl⟩:=h1 u hu;rfl
 have hl:news.length=news.length*i.size:=by rw [hs,Nat.mul_one]
 have zs:∀ n,∀ c∈Builtin.zeroCells (Value.int .i64 0).cells n,isI c:=by
  intro n c hc
  have:c=.int .i64 0:=by
   have h0:∀ n,∀ c∈(Builtin.zeroCells (Value.int .i64 0).cells n),c=.int .i64 0:=by
    intro n c hc;unfold Builtin.zeroCells at hc;simp [Value.cells,Nat.mod_one] at hc;obtain ⟨_,h3⟩:=hc
    first | exact h3.symm | exact h3.2.symm
   exact h0 n c hc
  exact ⟨0,this⟩
 obtain ⟨v',w',g1,g2,g3,_,g5⟩:=run_append_own_at (P:=P) w base t ty e i (.int .i64 0) 1 8 hT hi hz hs hby rfl (by decide) v vs.length vs hown.1 ad news.length c news (by simp) (fun j u hu=>hr j u hu) one (by unfold maxLen;omega) (by omega) hbase;refine ⟨v',w',g1,⟨by unfold zD6;rw [zA8];exact g2,fun g hg => ?_⟩,g3,g5⟩;rcases hown.1.2 with ⟨rfl,h0⟩|⟨g',cap,cur,rfl,hbg,hgg,hnc,hcm,hcs,htake⟩
 ·have hx:vs=[]:=List.eq_nil_of_length_eq_zero h0;subst hx;have hr2:=run_append_nil (P:=P) w t ty e i (.int .i64 0) hT hi hz ad news.length c news hl hr hm0 (by omega) (by rw [hby];simp at hlen;omega);rw [hr2] at g1;injection g1 with g1 g1';subst g1;subst g1';obtain rfl:w.heap.size=g:=by simpa [Value.ownBlock] using hg
  refine ⟨_,heap_alloc_new w.drew _,fun c hc => ?_⟩;rcases Array.mem_append.1 hc with hc | hc
  ·exact h1 c (by simpa using hc)
  ·exact zs _ c hc
 ·obtain ⟨cs,hcs1,hcs2⟩:=hown.2 g' rfl;rw [hgg] at hcs1;injection hcs1 with hcs1;injection hcs1 with hcs1 _ _;subst hcs1;by_cases hroom:vs.length+news.length<=cap
  ·have hfit:vs.length*i.size+news.length<=cur.size:=by rw [hcs,hs];omega
   have hr2:=run_append_room (P:=P) w t ty e i hT hi g' vs.length cap cur hgg ad news.length c news hl hr one hroom hfit;rw [hr2] at g1;injection g1 with g1 g1';subst g1;subst g1';obtain rfl:g'=g:=by simpa [Value.ownBlock] using hg
   refine ⟨_,setRow_heap w g' cur _ e _ hgg,fun c hc => ?_⟩;have hc2:c∈cur.toList.take (vs.length*i.size) ++ news ++ cur.toList.drop (vs.length*i.size+news.length):=by simpa using hc
   rcases List.mem_append.1 hc2 with hc2 | hc2
   ·rcases List.mem_append.1 hc2 with hc2 | hc2
    ·exact hcs2 c (by simpa using List.mem_of_mem_take hc2)
    ·exact h1 c hc2
   ·exact hcs2 c (by simpa using List.mem_of_mem_drop hc2)
  ·have holds:∀ j u,vs[j]?=some u->w.cell? ((⟨g',0,none⟩:Addr).add j)=some u:=World.ownsRow.cells hown.1 (g:=g') rfl;have hr2:=run_append_grow (P:=P) w t ty e i (.int .i64 0) hT hi hz ⟨g',0,none⟩ vs.length cap vs (by rw [hs];omega) holds ad news.length c news hl hr (by omega) (by omega) (growslice_fits (by omega) (by rw [hby];omega));rw [hr2] at g1;injection g1 with g1 g1';subst g1;subst g1';obtain rfl:w.heap.size=g:=by simpa [Value.ownBlock] using hg
   refine ⟨_,heap_alloc_new w.drew _,fun c hc => ?_⟩;rcases Array.mem_append.1 hc with hc | hc
   ·rcases Array.mem_append.1 hc with hc | hc
    ·have hcv:c∈vs:=by simpa using hc
     rw [<- htake] at hcv;exact hcs2 c (by simpa using List.mem_of_mem_take hcv)
    ·exact h1 c (by simpa using hc)
   ·exact zs _ c hc
theorem jD8 {w:World} {o:Oper} {a:Act} {K:Act->World->Prop} {Q:Exit->Act->World->Prop} (s x:Operand) {t:TypeId}
  (ho:o.op=.call { callee:=.builtin .append,args:=#[s,x],argTypes:=#[t,t] })
  {base:Nat} {e:TypeId} (hT:P.underlying t=some (.slice e)) (hI:∃ i,P.info? e=some i/\i.zero=some (.int .i64 0)/\i.size=1/\i.bytes=8) {v:Value} {vs news:List Value} (hs:a.eval s=v) (hown:zE isI w base e v vs) {ad:Addr} {m c:Nat} (hx:a.eval x=.slice (some ad) m c) (hm:m=news.length) (hm0:0<m)
  (hr:∀ (i:Nat) (u:Value),news[i]?=some u->w.cell? (ad.add i)=some u) (h1:∀ u∈news,isI u) (hlen:vs.length+m<=1000000000) (hbase:base<=w.heap.size)
  (h:∀ v' w',zE isI w' base e v' (vs ++ news)->Hid (w.grownBy w' v.ownBlock)->Hid (v'.ownBlock=v.ownBlock\/v'.ownBlock=some w.heap.size)->K (a.put o.dst v') w'):o.wp P a w K Q:=by
 obtain ⟨v',w',hrun,h2,h3,h4⟩:=jD7 (P:=P) (ty:=o.type) hT hI hown (c:=c) hm hm0 hr h1 hlen hbase;unfold Oper.wp execOp;simp only [ho,resolve,invoke,builtin,Sem.run_bind,Sem.run_pure,Result.andThen_ok,List.map_toArray,List.map_cons,List.map_nil,hs,hx,hrun];exact h v' w' h2 h3 h4
theorem qT8 {w:World} {ops:Array Oper} {rest:List Oper} {o:Oper} {a:Act} {Q:Exit->Act->World->Prop} (hgd:o.guard=none) (s x:Operand) {t:TypeId}
  (ho:o.op=.call { callee:=.builtin .append,args:=#[s,x],argTypes:=#[t,t] })
  {base:Nat} {e:TypeId} (hT:P.underlying t=some (.slice e)) (hI:∃ i,P.info? e=some i/\i.zero=some (.int .i64 0)/\i.size=1/\i.bytes=8) {v:Value} {vs news:List Value} (hs:a.eval s=v) (hown:zE isI w base e v vs) {ad:Addr} {m c:Nat} (hx:a.eval x=.slice (some ad) m c) (hm:m=news.length) (hm0:0<m)
  (hr:∀ (i:Nat) (u:Value),news[i]?=some u->w.cell? (ad.add i)=some u) (h1:∀ u∈news,isI u) (hlen:vs.length+m<=1000000000) (hbase:base<=w.heap.size)
  (h:∀ v' w',zE isI w' base e v' (vs ++ news)->Hid (w.grownBy w' v.ownBlock)->Hid (v'.ownBlock=v.ownBlock\/v'.ownBlock=some w.heap.size)->wpList P ops Q rest (a.put o.dst v') w'):wpList P ops Q (o :: rest) a w :=
 wpList_plain hgd fun _ hK=>jD8 s x ho hT hI hs hown hx hm hm0 hr h1 hlen hbase fun v' w' h2 h3 h4=>hK _ _ (h v' w' h2 h3 h4)
end
theorem zE.keepF {w w':World} {base:Nat} {e:TypeId} {V:Value} {vs:List Value} {v:Value} {r:List Rat} (h:zE isI w base e V vs) (hg:w.grownBy w' V.ownBlock) (hs:SlF .u64 4294967296 w v r):SlF .u64 4294967296 w' v r:=by
  cases ho:V.ownBlock with
  | none=>rw [ho] at hg;exact hs.below ⟨hg.os,hg.tape,hg.output,hg.size,fun k hk=>hg.block k hk (by simp)⟩
  | some g =>
    rw [ho] at hg;obtain ⟨cs,h1,h2⟩:=h.2 g ho;exact hs.keepX h1 (fun c hc b=>by obtain ⟨n,rfl⟩:=h2 c hc;simp) (fun c hc n=>by obtain ⟨n',rfl⟩:=h2 c hc;simp) hg
theorem zE4.keepX {w w':World} {base g:Nat} {e TS:TypeId} {V:Value} {vs us:List Value} {T:List (List Rat)} (h:zE4 .u64 4294967296 w g TS us T) (hX:zE isI w base e V vs) (hne:V.ownBlock≠some g) (hg:w.grownBy w' V.ownBlock):zE4 .u64 4294967296 w' g TS us T :=
 ⟨h.1.grown hg hne,h.2.1,fun i u r hu hr=>hX.keepF hg (h.2.2 i u r hu hr)⟩
theorem zE.notTab {w:World} {base g:Nat} {e TS:TypeId} {V:Value} {vs us:List Value} (h:zE isI w base e V vs) (hT:zG9 w g TS us) (hne:e≠TS):V.ownBlock≠some g:=fun e1=>by
 obtain ⟨cs,h1,_⟩:=h.2 g e1;have h2:=hT.1;unfold Blk at h2;rw [h1] at h2;injection h2 with h2;injection h2 with _ h2;exact hne h2
theorem zU5 {w w1 w2:World} {row:Option Nat} {g:Nat} (h:w.grownBy w1 row) (h2:w1.grownBy w2 (some g)) (hg:w.heap.size<=g):w.grownBy w2 row:=by
 refine ⟨h2.os.trans h.os,h2.tape.trans h.tape,h2.output.trans h.output,zB5 h.size h2.size,fun k hk hne => ?_⟩;rw [h2.block k (Nat.lt_of_lt_of_le hk h.size) (fun e=>by injection e with e;omega)];exact h.block k hk hne
theorem yI2 {w w1 w2:World} {row:Option Nat} {v:Value} (h:w.grownBy w1 row) (h2:w1.grownBy w2 v.ownBlock) (hg:∀ g,v.ownBlock=some g->w.heap.size<=g):w.grownBy w2 row:=by
 cases e:v.ownBlock with
 | none=>rw [e] at h2;exact zJ8 h ⟨h2.os,h2.tape,h2.output,h2.size,fun k hk=>h2.block k hk (by simp)⟩
 | some g=>rw [e] at h2;exact zU5 h h2 (hg g e)
theorem Dwn.small {T0 T:List (List Rat)} {n C a S:Nat} {ps:List Nat} {d:Rat} (h:Dwn T0 T n C a ps d S) (hS:(S+1)*2^(n-1)<=400):zG8 T 399:=by
 obtain ⟨S',h1,h2⟩:=h.len;refine h1.mono ?_;have h3:(S+1)*2^(min ps.length (n-1))<=(S+1)*2^(n-1):=Nat.mul_le_mul_left _ (Nat.pow_le_pow_right (by omega) (Nat.min_le_right _ _));omega
theorem zE4.offQ {w w':World} {g gx n C:Nat} {TS t:TypeId} {us:List Value} {T:List (List Rat)} {a b c:Value} (h:zE4 .u64 4294967296 w g TS us T) (hs:shp T n C) (hB:Blk w gx t #[a,b,c]) (hno:∀ x∈(#[a,b,c]:Array Value),∀ n,x ≠ .int .u64 n) (hne:TS≠t) (hg:w.grownBy w' (some gx)) (hoff:0<C -> ∀ u∈us,u.ownBlock≠some gx):zE4 .u64 4294967296 w' g TS us T:=by
 have hgx:g≠gx:=fun e=>by
  have h1:=h.1.1;unfold Blk at h1 hB;rw [e,hB] at h1;injection h1 with h1;injection h1 with _ h1;exact hne h1.symm
 refine ⟨h.1.grown hg (fun e=>hgx (by injection e with e;exact e.symm)),h.2.1,fun i u r hu hr => ?_⟩;have hsl:=h.2.2 i u r hu hr;by_cases h0:r=[]
 ·subst h0;exact hsl.any
 ·have hC:0<C:=by rw [<- hs.2 r (zA5 hr)];exact List.length_pos_iff.2 h0
  exact hsl.off hB hno hg (hoff hC u (zA5 hu))
theorem zE.keepS {w w':World} {base:Nat} {e:TypeId} {V:Value} {vs:List Value} {v:Value} {l:List Nat} (h:zE isI w base e V vs) (hg:w.grownBy w' V.ownBlock) (hs:IsS w .u64 v l):IsS w' .u64 v l:=by
  cases ho:V.ownBlock with
  | none=>rw [ho] at hg;exact hs.below ⟨hg.os,hg.tape,hg.output,hg.size,fun k hk=>hg.block k hk (by simp)⟩
  | some g =>
    rw [ho] at hg;obtain ⟨cs,h1,h2⟩:=h.2 g ho;exact Go.Proofs.YtagaabooccnamaaGreat.flow.off hs h1 (fun c hc n=>by obtain ⟨n',rfl⟩:=h2 c hc;simp) hg
theorem zE.notBlk {w:World} {base g:Nat} {e t:TypeId} {V:Value} {vs:List Value} {cs:Array Value} (h:zE isI w base e V vs) (hT:Blk w g t cs) (hne:e≠t):∀ x,V.ownBlock=some x->some g≠some x:=fun x e1 e2=>by
 obtain ⟨cs,h1,_⟩:=h.2 x e1;injection e2 with e2;subst e2;unfold Blk at hT;rw [h1] at hT;injection hT with hT;injection hT with _ hT;exact hne hT
theorem zE.keepBlk {w w':World} {base g:Nat} {e t:TypeId} {V:Value} {vs:List Value} {cs:Array Value} (h:zE isI w base e V vs) (hT:Blk w g t cs) (hne:e≠t) (hg:w.grownBy w' V.ownBlock):Blk w' g t cs:=by
  cases ho:V.ownBlock with
  | none=>rw [ho] at hg;exact hT.below ⟨hg.os,hg.tape,hg.output,hg.size,fun k hk=>hg.block k hk (by simp)⟩
  | some x =>
    rw [ho] at hg;exact Blk.grown hT hg (fun e=>h.notBlk hT hne x ho (by rw [e]))
theorem qT9 (w:World) (g:Nat) (x y z:Value):w.grownBy (((w.setCell ⟨g,0,none⟩ x).setCell ⟨g,1,none⟩ y).setCell ⟨g,2,none⟩ z) (some g):=((zE7 w g 0 x).trans (zE7 _ g 1 y)).trans (zE7 _ g 2 z)
theorem no3 {k:IntKind} {A D:Option Addr} {n m c e:Nat} (b:Bool):∀ x∈(#[.bool b,.slice A n c,.slice D m e]:Array Value),∀ z,x ≠ .int k z:=by
 intro x hx z;have:x=.bool b\/x=.slice A n c\/x=.slice D m e:=by simpa using hx
 rcases this with rfl|rfl|rfl<;>simp
theorem zL9.set {us:List Value} {G:Nat->Prop} (h:zL9 us G) {u:Value} (hu:∀ g,u.ownBlock=some g -> ¬ G g) (i:Nat):zL9 (us.set i u) G:=fun x hx g hg=>by
 rcases List.mem_or_eq_of_mem_set hx with hx | rfl
 ·exact h x hx g hg
 ·exact hu g hg
def pI (ps:List Nat):List Value:=vi (ps.map fun (i:Nat)=>(i:Int))
theorem zS7 (ps:List Nat):(pI ps).length=ps.length:=by unfold pI;rw [vi_len,zA9]
theorem yI3 (ps:List Nat) (a:Nat):pI ps ++ [.int .i64 (a:Int)]=pI (ps ++ [a]):=by unfold pI vi;simp
structure DownEnd (T0:List (List Rat)) (g n C pl S:Nat) (w:World) (v v5:Value) (w':World) (T:List (List Rat)) (us:List Value) (ps:List Nat) (d:Rat):Prop where
 dwn:Dwn T0 T n C pl ps d S
 tab:zE4 .u64 4294967296 w' g 44 us T
 piv:zE isI w' w.heap.size 3 v (pI ps)
 num:IsQ w' v5 d
 len:zC6 d (1+400*ps.length)
 own:w.grownBy w' (some g)
def yI4 (T0:List (List Rat)) (g n C pl S:Nat) (w:World) (e:Ending) (w':World):Prop:=∃ v v5 T us ps d,e=.returned (.tuple #[v,v5])/\DownEnd T0 g n C pl S w v v5 w' T us ps d
theorem jD9 (g n C pl S : Nat) (us : List Value) (T0 : List (List Rat)) (w : World) (h : zE4 .u64 4294967296 w g 44 us T0) (hc : Hid (shp T0 n C /\ pl <= C /\ n <= 5 /\ C <= 1000 /\ zG8 T0 S /\ (S + 1) * 2 ^ (n - 1) <= 400)) :
    Calls prog 90 #[.slice (some ⟨g,0,none⟩) n n,.int .i64 (pl:Int)] w (yI4 T0 g n C pl S w):=by
  have hn5:=hc.out.2.2.1;have hC:=hc.out.2.2.2.1;have hpl:=hc.out.2.1;obtain ⟨O,hO⟩:∃ O:Rat,O=1:=⟨_,rfl⟩
  have CO:∀ w,Calls prog 41 #[.int .i64 1] w (RetQ O w):=fun w=>by
    have h:=qT0 1 w (by omega) (by omega);rwa [show ((1:Int):Rat)=O by rw [hO];rfl] at h
  have HO:=hQ9 hO;clear hO
  go_enter func90,ntmps90;go_wp2_with fail
  refine (CO _).mono ?_;rintro e w2 ⟨v2,rfl,k2,-,b2⟩;obtain ⟨u2,t2,rfl,s2,d2⟩:=k2;obtain ⟨A2,c2,rfl,_⟩:=id s2;obtain ⟨D2,e2,rfl,_⟩:=id d2;have ba:=zD1 (w:=w) (zB4 _) (.cells #[.bool false,.slice none 0 0,.slice none 0 0] 83);have hs1:(w.alloc (.cells #[.bool false,.slice none 0 0,.slice none 0 0] 83)).heap.size=w.heap.size+1:=by first | rfl | exact Array.size_push _
  have BR0:=(Blk.new w 83 #[.bool false,.slice none 0 0,.slice none 0 0]).below b2;have ba2:=zD1 (w:=w2) (zB4 _) (.cells #[.bool (ngB O.num),.slice A2 (digs 4294967296 O.num.natAbs).length c2,.slice D2 (digs 4294967296 O.den).length e2] 83);have BP0:=Blk.new w2 83 #[.bool (ngB O.num),.slice A2 (digs 4294967296 O.num.natAbs).length c2,.slice D2 (digs 4294967296 O.den).length e2];have hgP:w.heap.size<w2.heap.size:=by have:=b2.size;omega
  have hglt:g<w.heap.size:=h.lt;have bb2:=ba.trans (b2.mono ba.size);have TS0:=(h.below bb2).below ba2;have HG0:Hid (w.grownBy _ (some g)):=qM8 (bb2.trans (ba2.mono bb2.size)) (some g);have s20:=s2.below ba2;have d20:=d2.below ba2;have BR1:=BR0.below ba2
  have HD0:Hid (Dwn T0 T0 n C 0 [] O S):=by
    show Dwn T0 T0 n C 0 [] O S
    rw [HO.out];exact Dwn.start hc.out.1 hc.out.2.2.2.2.1
  have HL0:Hid (zC6 O (1+400*([]:List Nat).length)):=by
    show zC6 O _
    rw [HO.out];exact lenQ_01 (.inr rfl)
  have HO0:Hid (0<C->zL9 us (fun x=>x=w.heap.size\/x=w2.heap.size)):=by
    show _->_
    intro hC0 u hu x hx hG;obtain ⟨i,hi⟩:=List.mem_iff_getElem?.1 hu;obtain ⟨r,hr⟩:∃ r,T0[i]?=some r:=⟨_,zA3 (by rw [<- h.2.1];exact (zA4.1 hi).1)⟩;have hsl:=h.2.2 i u r hi hr;have hr0:r≠[]:=List.length_pos_iff.1 (by rw [hc.out.1.2 r (zA5 hr)];exact hC0);obtain ⟨g',o',c',rfl,hlt,_⟩:=hsl.place hr0;have e1:g'=x:=by simpa [Value.ownBlock] using hx
    rcases hG with e2 | e2<;>omega
  clear ba b2 ba2 bb2 s2 d2 BR0 hs1;go_wp2
  go_loopw [6,15] (fun v6 v15 wr => ∃ (j:Nat) (T:List (List Rat)) (us':List Value) (ps:List Nat) (d:Rat) (u t:Value),j<=pl/\Hid (Dwn T0 T n C j ps d S)/\zE4 .u64 4294967296 wr g 44 us' T/\zE isI wr w.heap.size 3 v6 (pI ps)/\Blk wr w2.heap.size 83 #[.bool (ngB d.num),u,t]/\IsS wr .u64 u (digs 4294967296 d.num.natAbs)/\IsS wr .u64 t (digs 4294967296 d.den)/\Blk wr w.heap.size 83 #[.bool false,.slice none 0 0,.slice none 0 0]/\Hid (zC6 d (1+400*ps.length))/\Hid (w.grownBy wr (some g))/\Hid (0<C->zL9 us' (fun x=>x=w.heap.size\/x=w2.heap.size))/\v15=.int .i64 (j:Int)) (fun _ v15 _=>pl-(intOf v15).toNat)
  case atStart=>exact ⟨0,T0,us,[],O,_,_,by omega,HD0,TS0,jD6 _ _ _ _,BP0,s20,d20,BR1,HL0,HG0,HO0,rfl⟩
  case round =>
    clear TS0 BP0 s20 d20 BR1 HL0 HG0 HD0 HO0 CO HO;obtain ⟨j,T,us',ps,d,u,t,hj,HD,TS,RP,BP,su,st,BR,HLD,HG,HOF,rfl⟩:=hrel;obtain ⟨Au,cu,rfl,_⟩:=id su;obtain ⟨At,ct,rfl,_⟩:=id st;by_cases hlt:j<pl
    · obtain ⟨A6, c6, e6⟩ := zD6.slice RP.1;rw [zS7] at e6;subst e6;have hkn : ps.length <= n:=HD.out.ech.le;by_cases hk:ps.length<n
      · have hnk:¬ n=ps.length:=by omega
        have hTl:T.length=n:=HD.out.sh.1;have SL:=TS.sub (o:=ps.length) (m:=n-ps.length) (c:=n-ps.length) (by omega) (zB4 _) (by unfold maxLen;omega);have hj:j<C:=by omega
        have HSH:=hQ9 HD.out.sh;go_wp2_with fail
        refine (yI0 _ _ j _ SL (fun r hr=>by rw [HSH.out.2 r (List.mem_of_mem_drop (List.mem_of_mem_take hr))];omega)).mono ?_;rintro e w4 ⟨f,rfl,hf,hz,hnz,b4⟩;have hLl:((T.drop ps.length).take (n-ps.length)).length=n-ps.length:=by rw [zB2,List.length_drop];omega
        have hent:∀ i,i<n-ps.length->zC0 ((T.drop ps.length).take (n-ps.length)) i j=zC0 T (ps.length+i) j:=fun i hi=>by
          have e:((T.drop ps.length).take (n-ps.length)).getD i []=T.getD (ps.length+i) []:=by rw [zA6,List.getElem?_take_of_lt hi,List.getElem?_drop,zA6]
          unfold zC0;rw [e]
        rw [hLl] at hf hnz;have TS4:=TS.below b4;have RP4:=RP.below b4;have BP4:=BP.below b4;have su4:=su.below b4;have st4:=st.below b4;have BR4:=BR.below b4;have HG4:Hid (w.grownBy w4 (some g)):=zJ8 HG.out b4;clear TS RP BP su st BR HG SL;by_cases hfl:f<n-ps.length
        · have hne:zC0 T (ps.length+f) j≠0:=by rw [<- hent f hfl];exact hnz hfl
          have HNE:=hQ9 hne;clear hz hnz hent hne hLl
          go_upto_if 30 with (fail)
          have hb28:((f:Int) == ((n-ps.length:Nat):Int))=false:=by rw [beq_eq_false_iff_ne];omega
          obtain ⟨B30,hB⟩:∃ B,B=decide (0<f):=⟨_,rfl⟩;rw [hb28,<- hB];have HB:=hQ9 hB;clear hb28 hB
          go_cut [] from 31 to 44 (fun wx => ∃ (us2:List Value) (d2:Rat) (u2 t2:Value),zE4 .u64 4294967296 wx g 44 us2 (zG7 T ps.length (ps.length+f))/\Hid (zL9 us2 (fun x=>x=w.heap.size\/x=w2.heap.size))/\zE isI wx w.heap.size 3 (.slice A6 ps.length c6) (pI ps)/\Blk wx w2.heap.size 83 #[.bool (ngB d2.num),u2,t2]/\IsS wx .u64 u2 (digs 4294967296 d2.num.natAbs)/\IsS wx .u64 t2 (digs 4294967296 d2.den)/\Blk wx w.heap.size 83 #[.bool false,.slice none 0 0,.slice none 0 0]/\Hid (d2=if ps.length+f=ps.length then d else -d)/\Hid (w.grownBy wx (some g)))
          case first =>
            by_cases hf0:f=0
            · subst hf0;have hb:B30=false:=HB.out;subst hb;have e1:zG7 T ps.length (ps.length+0)=T:=yZ8 (by omega);have e2:d=if ps.length+0=ps.length then d else -d:=(if_pos rfl).symm
              go_wp2_with fail
              go_meet
              exact ⟨us',d,_,_,by rw [e1];exact TS4,HOF.out (by omega),RP4,BP4,su4,st4,BR4,e2,HG4.out⟩
            · have hb:B30=true:=by rw [HB.out];exact decide_eq_true (by omega)
              subst hb;obtain ⟨rk,hrk,hrkl⟩:=zH7 HSH.out (show ps.length<n by omega);obtain ⟨rf,hrf,hrfl⟩:=zH7 HSH.out (show ps.length+f<n by omega);obtain ⟨Ak,ck,huk,eck,srk⟩:=TS4.at_ hrk;obtain ⟨Af,cf,huf,ecf,srf⟩:=TS4.at_ hrf;have fk:=TS4.frozenAt ps.length;have ff:=TS4.frozenAt (ps.length+f);have hpos:0<n-ps.length:=by omega
              go_upto_region 10 with (fail)
              go_region
              all_goals
                have TS5:=TS4.stored ps.length srf;have srk5:=TS4.1.keepF (zE7 w4 g ps.length (.slice Af rf.length cf)) srk;have TS6:=TS5.stored (ps.length+f) srk5;rw [show (T.set ps.length rf).set (ps.length+f) rk=zG7 T ps.length (ps.length+f) by unfold zG7;rw [zJ2 hrk,zJ2 hrf]] at TS6;have G8:=zJ8 ((zE7 w4 g ps.length (.slice Af rf.length cf)).trans (zE7 _ g (ps.length+f) (.slice Ak rk.length ck))) (Below.refl _ ((w4.setCell ⟨g,ps.length,none⟩ (.slice Af rf.length cf)).setCell ⟨g,ps.length+f,none⟩ (.slice Ak rk.length ck))).drew;have TS8:=TS6.below (Below.refl _ _).drew;have HO8:Hid (zL9 ((us'.set ps.length (.slice Af rf.length cf)).set (ps.length+f) (.slice Ak rk.length ck)) (fun x=>x=w.heap.size\/x=w2.heap.size)):=((HOF.out (by omega)).set (fun x hx=>HOF.out (by omega) _ (zA5 huf) x hx) ps.length).set (fun x hx=>HOF.out (by omega) _ (zA5 huk) x hx) (ps.length+f);have RP8:=RP4.grown G8 (fun x e1 e2=>RP4.notTab TS4.1 (by decide) (by rw [e1,e2]));have BP8:=Blk.grown BP4 G8 (by omega);have BR8:=Blk.grown BR4 G8 (by omega);have su8:=TS4.1.keep G8 su4;have st8:=TS4.1.keep G8 st4;have HG8:Hid (w.grownBy _ (some g)):=HG4.out.trans G8;have kd:IsQ _ (.agg #[.bool (ngB d.num),.slice Au (digs 4294967296 d.num.natAbs).length cu,.slice At (digs 4294967296 d.den).length ct]) d:=⟨_,_,rfl,su8,st8⟩;obtain ⟨V0,V1,V2,_,_,_⟩:=three BP8;have HLd:Hid (zC6 d 100000):=HLD.out.mono (by have:=HD.out.ech.le;omega);clear TS5 TS6 srk5 G8 TS4 RP4 BP4 BR4 su4 st4 HG4 srk srf eck ecf fk ff su8 st8;rw [hrfl,hrkl] at *;obtain ⟨M,hM⟩:∃ M,M = -d:=⟨_,rfl⟩;have CN:∀ w a,IsQ w a d->Calls prog 126 #[a] w (RetQ M w):=fun w a h=>by rw [hM];exact yD9 a d w h HLd.out
                have HM:=hQ9 hM;clear hM;go_wp2_with fail
                refine (CN _ _ kd).mono ?_;rintro e w9 ⟨v9,rfl,k9,-,b9⟩;obtain ⟨u9,t9,rfl,s9,d9⟩:=k9;obtain ⟨A9,c9,rfl,_⟩:=id s9;obtain ⟨D9,e9,rfl,_⟩:=id d9;have BP9:=BP8.below b9;obtain ⟨X0,X1,X2,F0,F1,F2⟩:=three BP9;have G10:=qT9 w9 w2.heap.size (.bool (ngB M.num)) (.slice A9 (digs 4294967296 M.num.natAbs).length c9) (.slice D9 (digs 4294967296 M.den).length e9);have B10:=qM7 BP9 (.bool (ngB M.num)) (.slice A9 (digs 4294967296 M.num.natAbs).length c9) (.slice D9 (digs 4294967296 M.den).length e9);have TS10:=(TS8.below b9).offQ (qF9 HSH.out (by omega) (by omega)) BP9 (no3 _) (by decide) G10 (fun hC0 u hu e=>HO8.out u hu _ e (.inr rfl));have RP10:=(RP8.below b9).grown G10 (fun x e1 e2=>(RP8.below b9).notBlk BP9 (by decide) x e1 e2);have BR10:=Blk.grown (BR8.below b9) G10 (by omega);have s10:=Go.Proofs.YtagaabooccnamaaGreat.flow.off s9 BP9 (no3 _) G10;have d10:=Go.Proofs.YtagaabooccnamaaGreat.flow.off d9 BP9 (no3 _) G10;have HG10:Hid (w.grownBy _ (some g)):=zU5 (zJ8 HG8.out b9) G10 (by omega);have E2:Hid (M=if ps.length+f=ps.length then d else -d):=HM.out.trans (if_neg (by omega)).symm;clear TS8 RP8 BP8 BR8 BP9 s9 d9 kd;go_wp2
                go_meet
                exact ⟨_,M,_,_,TS10,HO8,RP10,B10,s10,d10,BR10,E2,HG10.out⟩
          case rest =>
            obtain ⟨us2,d2,u2,t2,TS5,HO5,RP5,BP5,su5,st5,BR5,HD2,HG5⟩:=hcut;obtain ⟨w5,hw5⟩:∃ w5,w5=wc:=⟨_,rfl⟩;subst hw5;clear TS4 RP4 BP4 su4 st4 BR4 HG4 HOF HB;obtain ⟨T1,hT1⟩:∃ T1,T1=zG7 T ps.length (ps.length+f):=⟨_,rfl⟩;rw [<- hT1] at TS5;have hs1:shp T1 n C:=by rw [hT1];exact qF9 HSH.out (by omega) (by omega)
            obtain ⟨r1,hr1,hrl1,hq1⟩:=zW4 hs1 hk hj;obtain ⟨q1,hqe⟩:∃ q1,q1=zC0 T1 ps.length j:=⟨_,rfl⟩;rw [<- hqe] at hq1
            have hqf:q1=zC0 T (ps.length+f) j:=by
              rw [hqe,hT1,qL5 HSH.out (by omega) (by omega)];exact congrFun (if_pos rfl) j
            have hq0:q1≠0:=by rw [hqf];exact HNE.out
            have hR1:zG8 T1 399:=by rw [hT1];exact qS8 HSH.out (by omega) (by omega) (HD.out.small hc.out.2.2.2.2.2)
            have hLr:zL5 r1 399:=hR1 r1 (zA5 hr1);obtain ⟨Dn,hDn⟩:∃ Dn,Dn=d2*q1:=⟨_,rfl⟩;obtain ⟨X,hX⟩:∃ X,X=q1⁻¹:=⟨_,rfl⟩;have hLX:zC6 X 399:=by rw [hX];exact yB7 hq0 (hLr.len q1 (zA5 hq1))
            have hL2:zC6 d2 (1+400*ps.length):=by
              rw [HD2.out];by_cases e:ps.length+f=ps.length
              · rw [if_pos e];exact HLD.out
              · rw [if_neg e];exact qQ6 HLD.out
            have hLn:zC6 Dn (1+400*(ps.length+1)):=by rw [hDn];exact (qQ5 hL2 (hLr.len q1 (zA5 hq1))).mono (by omega)
            obtain ⟨Au2,cu2,rfl,_⟩:=id su5;obtain ⟨At2,ct2,rfl,_⟩:=id st5;have CM:∀ w a b,IsQ w a d2->IsQ w b q1->Calls prog 127 #[a,b] w (RetQ Dn w):=fun w a b h1 h2=>by rw [hDn];exact qT a d2 b q1 w h1 h2 (hL2.mono (by omega)) ((hLr.len q1 (zA5 hq1)).mono (by omega))
            have CV:∀ w a,IsQ w a q1->Calls prog 128 #[a] w (zU1 X 0 w):=fun w a h1=>by rw [hX];exact inv8_ok a q1 w h1 ((hLr.len q1 (zA5 hq1)).mono (by omega)) hq0
            have HE:=hQ9 (zA hT1 (zA hs1 (zA hr1 (zA hrl1 (zA hq1 (zA hqe (zA hqf (zA hq0 (zA hR1 (zA hDn (zA hX (zA hLX hLn))))))))))));have HLR:=hQ9 hLr;clear hT1 hs1 hqe hqf hq0 hR1 hDn hX hLX hLn hL2 hLr hrl1;have bd:=(Below.refl w5.heap.size w5).drew;have TSd:=TS5.below bd;have RPd:=RP5.below bd;have BPd:=BP5.below bd;have sud:=su5.below bd;have std:=st5.below bd;have BRd:=BR5.below bd;have HGd:Hid (w.grownBy w5.drew (some g)):=zJ8 HG5.out bd;obtain ⟨Ar,cr,hur,ecr,sr⟩:=TSd.at_ hr1;obtain ⟨gr,or,uq,tq,rfl,hia,k0,k1,k2,sq,dq⟩:=sr.at_ hq1;obtain ⟨Aq,cq,rfl,_⟩:=id sq;obtain ⟨Dq,eq,rfl,_⟩:=id dq;have hix:=fun w=>zI9 (P:=prog) underlying44 (by kernel_rfl) (g:=gr) (o:=or) (c:=cr) hia w;have kq:IsQ w5.drew (.agg #[.bool (ngB q1.num),.slice Aq (digs 4294967296 q1.num.natAbs).length cq,.slice Dq (digs 4294967296 q1.den).length eq]) q1:=⟨_,_,rfl,sq,dq⟩;have kd:IsQ w5.drew (.agg #[.bool (ngB d2.num),.slice Au2 (digs 4294967296 d2.num.natAbs).length cu2,.slice At2 (digs 4294967296 d2.den).length ct2]) d2:=⟨_,_,rfl,sud,std⟩;obtain ⟨V0,V1,V2,_,_,_⟩:=three BPd;have hpos:0<n-ps.length:=by omega
            clear TS5 RP5 BP5 su5 st5 BR5 HG5 bd sr hr1 hq1;go_upto_region 12 with (fail)
            go_cut [] from 45 to 52 (fun wx => ∃ u3 t3:Value,zE4 .u64 4294967296 wx g 44 us2 T1/\zE isI wx w.heap.size 3 (.slice A6 ps.length c6) (pI ps)/\Blk wx w2.heap.size 83 #[.bool (ngB Dn.num),u3,t3]/\IsS wx .u64 u3 (digs 4294967296 Dn.num.natAbs)/\IsS wx .u64 t3 (digs 4294967296 Dn.den)/\Blk wx w.heap.size 83 #[.bool false,.slice none 0 0,.slice none 0 0]/\Hid (w.grownBy wx (some g)))
            case first =>
             go_region_law (go_simp;go_at_call 127;refine (CM _ _ _ (by exact kd) (by exact kq)).mono ?_;rintro e w6 ⟨v6,rfl,k6,-,b6⟩;obtain ⟨u6,t6,rfl,s6,d6⟩:=k6;obtain ⟨A7,c7,rfl,_⟩:=id s6;obtain ⟨D7,e7,rfl,_⟩:=id d6;have BP6:=BPd.below b6;obtain ⟨X0,X1,X2,F0,F1,F2⟩:=three BP6)
             all_goals
              have G7:=qT9 w6 w2.heap.size (.bool (ngB Dn.num)) (.slice A7 (digs 4294967296 Dn.num.natAbs).length c7) (.slice D7 (digs 4294967296 Dn.den).length e7);have B7:=qM7 BP6 (.bool (ngB Dn.num)) (.slice A7 (digs 4294967296 Dn.num.natAbs).length c7) (.slice D7 (digs 4294967296 Dn.den).length e7);have TS7:=(TSd.below b6).offQ HE.out.2.1 BP6 (no3 _) (by decide) G7 (fun hC0 u hu e=>HO5.out u hu _ e (.inr rfl));have RP7:=(RPd.below b6).grown G7 (fun x e1 e2=>(RPd.below b6).notBlk BP6 (by decide) x e1 e2);have BR7:=Blk.grown (BRd.below b6) G7 (by omega);have s7:=Go.Proofs.YtagaabooccnamaaGreat.flow.off s6 BP6 (no3 _) G7;have d7:=Go.Proofs.YtagaabooccnamaaGreat.flow.off d6 BP6 (no3 _) G7;have HG7:Hid (w.grownBy _ (some g)):=zU5 (zJ8 HGd.out b6) G7 (by omega);clear TSd RPd BPd BRd HGd BP6 s6 d6 kq kd sud std sq dq k0 k1 k2 ecr hix hur V0 V1 V2;go_wp2
              go_meet
              exact ⟨_,_,TS7,RP7,B7,s7,d7,BR7,HG7⟩
            case rest =>
              obtain ⟨u3,t3,TS7,RP7,BP7,su7,st7,BR7,HG7⟩:=hcut;obtain ⟨w7,hw7⟩:∃ w7,w7=wc:=⟨_,rfl⟩;subst hw7;clear TSd RPd BPd BRd HGd kq kd sud std sq dq k0 k1 k2 ecr hix hur V0 V1 V2 CM;obtain ⟨Ar,cr,hur,ecr,sr⟩:=TS7.at_ HE.out.2.2.1;obtain ⟨gr,or,uq,tq,rfl,hia,k0,k1,k2,sq,dq⟩:=sr.at_ HE.out.2.2.2.2.1;obtain ⟨Aq,cq,rfl,_⟩:=id sq;obtain ⟨Dq,eq,rfl,_⟩:=id dq;have hix:=fun w=>zI9 (P:=prog) underlying44 (by kernel_rfl) (g:=gr) (o:=or) (c:=cr) hia w;have kq:IsQ w7 (.agg #[.bool (ngB q1.num),.slice Aq (digs 4294967296 q1.num.natAbs).length cq,.slice Dq (digs 4294967296 q1.den).length eq]) q1:=⟨_,_,rfl,sq,dq⟩;clear sr
              go_wp2_with fail
              refine (CV _ _ kq).mono ?_;rintro e w8 ⟨v8,rfl,k8,-,b8⟩;obtain ⟨u8,t8,rfl,s8,d8⟩:=k8;obtain ⟨A8,c8,rfl,_⟩:=id s8;obtain ⟨D8,e8,rfl,_⟩:=id d8;have ba:=zD1 (w:=w8) (zB4 _) (.cells #[.bool (ngB X.num),.slice A8 (digs 4294967296 X.num.natAbs).length c8,.slice D8 (digs 4294967296 X.den).length e8] 83);have BU:=Blk.new w8 83 #[.bool (ngB X.num),.slice A8 (digs 4294967296 X.num.natAbs).length c8,.slice D8 (digs 4294967296 X.den).length e8];have bb:=b8.trans (ba.mono b8.size);have bd:=(Below.refl (w8.alloc (.cells #[.bool (ngB X.num),.slice A8 (digs 4294967296 X.num.natAbs).length c8,.slice D8 (digs 4294967296 X.den).length e8] 83)).heap.size (w8.alloc (.cells #[.bool (ngB X.num),.slice A8 (digs 4294967296 X.num.natAbs).length c8,.slice D8 (digs 4294967296 X.den).length e8] 83))).drew;have bb9:=bb.trans (bd.mono bb.size);have TS9:=TS7.below bb9;have RP9:=RP7.below bb9;have BP9:=BP7.below bb9;have su9:=su7.below bb9;have st9:=st7.below bb9;have BR9:=BR7.below bb9;have HG9:Hid (w.grownBy _ (some g)):=zJ8 HG7.out bb9;have BU9:=BU.below bd;obtain ⟨V0,V1,V2,_,_,_⟩:=three BU9;have kX:IsQ _ (.agg #[.bool (ngB X.num),.slice A8 (digs 4294967296 X.num.natAbs).length c8,.slice D8 (digs 4294967296 X.den).length e8]) X:=⟨_,_,rfl,s8.below (ba.trans (bd.mono ba.size)),d8.below (ba.trans (bd.mono ba.size))⟩;obtain ⟨Ar2,cr2,hur2,ecr2,sr2⟩:=TS9.at_ HE.out.2.2.1;have HLS:Hid (r1.length<=1000/\(∀ x∈r1,zC6 x 399)/\zC6 X 399/\399<=4900/\399<=4900):=⟨by rw [HE.out.2.2.2.1];exact hC,HLR.out.len,HE.out.2.2.2.2.2.2.2.2.2.2.2.1,by omega,by omega⟩
              have HNL:Hid ((zF3 r1 X).length<=1000000000):=by
                show _<=_
                rw [qB6];have:=HLS.out.1;omega
              have hkl:ps.length<T1.length:=by rw [HE.out.2.1.1];exact hk
              clear TS7 RP7 BP7 su7 st7 BR7 HG7 ba BU bb bd bb9 s8 d8 kq sq dq k0 k1 k2 ecr hix hur CV;go_upto_region 14 with (fail)
              go_cut [] from 63 to 69 (fun wx => ∃ us3:List Value,zE4 .u64 4294967296 wx g 44 us3 (T1.set ps.length (zF3 r1 X))/\Hid (zL9 us3 (fun x=>x=w.heap.size\/x=w2.heap.size))/\zE isI wx w.heap.size 3 (.slice A6 ps.length c6) (pI ps)/\Blk wx w2.heap.size 83 #[.bool (ngB Dn.num),u3,t3]/\IsS wx .u64 u3 (digs 4294967296 Dn.num.natAbs)/\IsS wx .u64 t3 (digs 4294967296 Dn.den)/\Blk wx w.heap.size 83 #[.bool false,.slice none 0 0,.slice none 0 0]/\Hid (w.grownBy wx (some g)))
              case first =>
                go_region_law (go_simp;go_at_call 129;refine (jB2 _ _ r1 X 399 399 _ (by exact sr2) (by exact kX) HLS.out).mono ?_;rintro e w10 ⟨gn,rfl,RNn,hgn,b10⟩;have sR:=RNn.sl rfl HNL.out;have TS10:=TS9.below b10;obtain ⟨u0,c10⟩:=TS10.cellAt (i:=ps.length) hkl;have f10:=TS10.frozenAt ps.length)
                all_goals
                  have TS11:=TS10.stored ps.length sR;have G11:=zE7 w10 g ps.length (.slice (some ⟨gn,0,none⟩) (zF3 r1 X).length (zF3 r1 X).length);have hb10:=b10.size
                  have HO11:Hid (zL9 (us2.set ps.length (.slice (some ⟨gn,0,none⟩) (zF3 r1 X).length (zF3 r1 X).length)) (fun x=>x=w.heap.size\/x=w2.heap.size)):=HO5.out.set (fun x hx hG=>by
                    have h1:gn=x:=by simpa [Value.ownBlock] using hx
                    have h2:=BP9.lt;have h3:=BR9.lt;rcases hG with e | e<;>omega) ps.length
                  have RP11:=(RP9.below b10).grown G11 (fun x e1 e2=>(RP9.below b10).notTab TS10.1 (by decide) (by rw [e1,e2]));have BP11:=Blk.grown (BP9.below b10) G11 (by omega);have BR11:=Blk.grown (BR9.below b10) G11 (by omega);have su11:=TS10.1.keep G11 (su9.below b10);have st11:=TS10.1.keep G11 (st9.below b10);have HG11:Hid (w.grownBy _ (some g)):=(zJ8 HG9.out b10).trans G11;clear TS9 RP9 BP9 su9 st9 BR9 HG9 TS10 sR kX sr2;go_wp2
                  go_meet
                  exact ⟨_,TS11,HO11,RP11,BP11,su11,st11,BR11,HG11⟩
              case rest =>
                obtain ⟨us3,TS9',HO9,RP9',BP9',su9',st9',BR9',HG9'⟩:=hcut;obtain ⟨w9,hw9⟩:∃ w9,w9=wc:=⟨_,rfl⟩;subst hw9;clear TS9 RP9 BP9 su9 st9 BR9 HG9 BU9 V0 V1 V2 kX hur2 ecr2 sr2 HNL HLS HO5;obtain ⟨T2,hT2⟩:∃ T2,T2=T1.set ps.length (zF3 r1 X):=⟨_,rfl⟩;rw [<- hT2] at TS9'
                have eT2:T2=zO5 (zG7 T ps.length (ps.length+f)) ps.length (zC0 (zG7 T ps.length (ps.length+f)) ps.length j)⁻¹:=by
                  rw [hT2,zO5,<- HE.out.1,zJ2 HE.out.2.2.1,HE.out.2.2.2.2.2.2.2.2.2.2.1,HE.out.2.2.2.2.2.1]
                have hs2:shp T2 n C:=by rw [hT2];exact qB8 HE.out.2.1 (by rw [qB6];exact HE.out.2.2.2.1)
                have hp2:T2[ps.length]?=some (zF3 r1 X):=by rw [hT2];exact List.getElem?_set_self hkl
                have hR2:zG8 T2 399:=by
                  rw [hT2];intro x hx;rcases List.mem_or_eq_of_mem_set hx with hx | rfl
                  · exact HE.out.2.2.2.2.2.2.2.2.1 x hx
                  · rw [HE.out.2.2.2.2.2.2.2.2.2.2.1];exact HLR.out.scale (zA5 HE.out.2.2.2.2.1) HE.out.2.2.2.2.2.2.2.1
                have HPV:Hid (zF9 T2 (fun i=>decide (ps.length<i)) (zF3 r1 X) j n=zK2 T (fun i=>decide (ps.length<i)) ps.length (ps.length+f) j n):=by
                  show _=_
                  unfold zK2;rw [<- eT2,zJ2 hp2]
                have HDN:Hid (Dwn T0 (zK2 T (fun i=>decide (ps.length<i)) ps.length (ps.length+f) j n) n C (j+1) (ps ++ [j]) Dn S):=by
                  have h1:=HD.out.pivot hj (show ps.length<=ps.length+f by omega) (show ps.length+f<n by omega) HNE.out;have h2:Dn=(if ps.length+f=ps.length then d else -d)*zC0 T (ps.length+f) j:=by rw [HE.out.2.2.2.2.2.2.2.2.2.1,HD2.out,HE.out.2.2.2.2.2.2.1]
                  show Dwn _ _ _ _ _ _ _ _
                  rw [h2];exact h1
                have HLL:Hid (zC6 Dn (1+400*(ps ++ [j]).length)):=by
                  show zC6 _ _
                  rw [zA8];exact HE.out.2.2.2.2.2.2.2.2.2.2.2.2
                have HPS:Hid (pI ps ++ [.int .i64 (j:Int)]=pI (ps ++ [j])):=yI3 ps j;have HRP2:Hid (zL5 (zF3 r1 X) 399):=hR2 _ (zA5 hp2);have hpl2:Hid ((zF3 r1 X).length=C):=hs2.2 _ (zA5 hp2);have H2:=hQ9 (zA hs2 (zA hp2 hR2));have bd:=(Below.refl w9.heap.size w9).drew;have TSd:=TS9'.below bd;obtain ⟨Ap,cp,hup,ecp,sp⟩:=TSd.at_ hp2
                have CC:∀ o m:Nat,o+m=n\/m=0->ps.length<=o->o<=n->(m=0->n=ps.length+1)->(m≠0->o=ps.length+1)->Calls prog 130 #[.slice (some ⟨g,o,none⟩) m m,.slice Ap (zF3 r1 X).length cp,.int .i64 (j:Int)] w9.drew (qM9 g us3 (zK2 T (fun i=>decide (ps.length<i)) ps.length (ps.length+f) j n) w9.drew):=fun o m h1 h2 h3 h4 h5=>by
                  have hc1:=yI1 g o m m j n C 399 us3 _ (zF3 r1 X) T2 (fun i=>decide (ps.length<i)) w9.drew TSd sp ⟨H2.out.1,hpl2.out,hj,by omega,zB4 _,by omega,hC,fun i hi=>by simp;omega,fun i h6 h7=>by simp;omega,H2.out.2.2,HRP2.out,fun _=>by omega⟩
                  have e:zF9 T2 (fun i=>decide (ps.length<i)) (zF3 r1 X) j (o+m)=zK2 T (fun i=>decide (ps.length<i)) ps.length (ps.length+f) j n:=by
                    rw [<- HPV.out];rcases h1 with h1 | h1
                    · rw [h1]
                    · subst h1;have h6:=h4 rfl;rw [qG1 (o+0) (fun i hi=>by simp;omega),qG1 n (fun i hi=>by simp;omega)]
                  rwa [e] at hc1
                have RPd:=RP9'.below bd;have BPd:=BP9'.below bd;have sud:=su9'.below bd;have std:=st9'.below bd;have BRd:=BR9'.below bd;have HGd:Hid (w.grownBy w9.drew (some g)):=zJ8 HG9'.out bd;have h1m:(1:Int)<=((n-ps.length:Nat):Int):=by omega
                clear TS9' RP9' BP9' su9' st9' BR9' HG9' hT2 eT2 hs2 hp2 hR2 hup;by_cases hm2:n-ps.length=1
                · have HM2:=hQ9 hm2;have hcc:=CC ps.length 0 (.inr rfl) (zB4 _) (by omega) (fun _=>by omega) (fun e=>absurd rfl e);go_upto_region 15 with (fail)
                  go_region_law (go_simp;go_at_call 130;refine hcc.mono ?_;rintro e w10 ⟨rfl,us4,TS10,G10,ST10⟩)
                  all_goals
                    have RP10:=RPd.grown G10 (fun x e1 e2=>RPd.notTab TSd.1 (by decide) (by rw [e1,e2]));have BP10:=Blk.grown BPd G10 (by omega);have BR10:=Blk.grown BRd G10 (by omega);have su10:=TSd.1.keep G10 sud;have st10:=TSd.1.keep G10 std;have HG10:Hid (w.grownBy w10 (some g)):=HGd.out.trans G10
                    have HO10:Hid (zL9 us4 (fun x=>x=w.heap.size\/x=w2.heap.size)):=ST10 _ (fun x hx=>by
                      have h2:=BPd.lt;have h3:=BRd.lt;rcases hx with rfl|rfl
                      · exact h3
                      · exact h2) HO9.out
                    have ba:=zD1 (w:=w10) (zB4 _) (.cells #[.int .i64 (j:Int)] 3);have RP11:=RP10.below ba;have TS11:=TS10.below ba;have BP11:=BP10.below ba;have BR11:=BR10.below ba;have su11:=su10.below ba;have st11:=st10.below ba;have HG11:Hid (w.grownBy _ (some g)):=zJ8 HG10.out ba;have hbase:w.heap.size<=(w10.alloc (.cells #[.int .i64 (j:Int)] 3)).heap.size:=zB5 HG10.out.size ba.size;have hone:=cell_one_new w10 (.int .i64 (j:Int)) 3;have hlp:(pI ps).length+1<=1000000000:=by rw [zS7];omega
                    clear TSd RPd BPd BRd sud std HGd G10 TS10 RP10 BP10 BR10 su10 st10 HG10 ba ST10 ecp sp CC
                    go_wp2_with (at_builtin;refine qT8 rfl (.tmp 77) (.tmp 79) rfl underlying36 info_int rfl RP11 rfl rfl (by decide) hone (fun u hu=>by (obtain rfl:=List.mem_singleton.1 hu;exact ⟨_,rfl⟩)) hlp hbase ?_;intro v12 w12 RP12 HG12 HX12)
                    have TS13:=TS11.keepX RP11 (RP11.notTab TS11.1 (by decide)) HG12.out;have BP13:=RP11.keepBlk BP11 (by decide) HG12.out;have BR13:=RP11.keepBlk BR11 (by decide) HG12.out;have su13:=RP11.keepS HG12.out su11;have st13:=RP11.keepS HG12.out st11;have HG13:Hid (w.grownBy w12 (some g)):=yI2 HG11.out HG12.out (fun x e=>RP11.1.base_le x e);rw [HPS.out] at RP12;clear TS11 RP11 BP11 BR11 su11 st11 HG11 hone;go_wp2;go_roundw;case rel=>exact ⟨j+1,_,us4,ps ++ [j],Dn,_,_,by omega,HDN,TS13,RP12,BP13,su13,st13,BR13,HLL,HG13,fun _=>HO10.out,by go_num⟩
                    case measure=>simp [intOf];omega
                · have hcc:=CC (ps.length+1) (n-ps.length-1) (.inl (by omega)) (by omega) (by omega) (fun e=>by omega) (fun _=>rfl);go_upto_region 15 with (fail)
                  go_region_law (go_simp;go_at_call 130;refine hcc.mono ?_;rintro e w10 ⟨rfl,us4,TS10,G10,ST10⟩)
                  all_goals
                    have RP10:=RPd.grown G10 (fun x e1 e2=>RPd.notTab TSd.1 (by decide) (by rw [e1,e2]));have BP10:=Blk.grown BPd G10 (by omega);have BR10:=Blk.grown BRd G10 (by omega);have su10:=TSd.1.keep G10 sud;have st10:=TSd.1.keep G10 std;have HG10:Hid (w.grownBy w10 (some g)):=HGd.out.trans G10
                    have HO10:Hid (zL9 us4 (fun x=>x=w.heap.size\/x=w2.heap.size)):=ST10 _ (fun x hx=>by
                      have h2:=BPd.lt;have h3:=BRd.lt;rcases hx with rfl|rfl
                      · exact h3
                      · exact h2) HO9.out
                    have ba:=zD1 (w:=w10) (zB4 _) (.cells #[.int .i64 (j:Int)] 3);have RP11:=RP10.below ba;have TS11:=TS10.below ba;have BP11:=BP10.below ba;have BR11:=BR10.below ba;have su11:=su10.below ba;have st11:=st10.below ba;have HG11:Hid (w.grownBy _ (some g)):=zJ8 HG10.out ba;have hbase:w.heap.size<=(w10.alloc (.cells #[.int .i64 (j:Int)] 3)).heap.size:=zB5 HG10.out.size ba.size;have hone:=cell_one_new w10 (.int .i64 (j:Int)) 3;have hlp:(pI ps).length+1<=1000000000:=by rw [zS7];omega
                    clear TSd RPd BPd BRd sud std HGd G10 TS10 RP10 BP10 BR10 su10 st10 HG10 ba ST10 ecp sp CC
                    go_wp2_with (at_builtin;refine qT8 rfl (.tmp 77) (.tmp 79) rfl underlying36 info_int rfl RP11 rfl rfl (by decide) hone (fun u hu=>by (obtain rfl:=List.mem_singleton.1 hu;exact ⟨_,rfl⟩)) hlp hbase ?_;intro v12 w12 RP12 HG12 HX12)
                    have TS13:=TS11.keepX RP11 (RP11.notTab TS11.1 (by decide)) HG12.out;have BP13:=RP11.keepBlk BP11 (by decide) HG12.out;have BR13:=RP11.keepBlk BR11 (by decide) HG12.out;have su13:=RP11.keepS HG12.out su11;have st13:=RP11.keepS HG12.out st11;have HG13:Hid (w.grownBy w12 (some g)):=yI2 HG11.out HG12.out (fun x e=>RP11.1.base_le x e);rw [HPS.out] at RP12;clear TS11 RP11 BP11 BR11 su11 st11 HG11 hone;go_wp2;go_roundw;case rel=>exact ⟨j+1,_,us4,ps ++ [j],Dn,_,_,by omega,HDN,TS13,RP12,BP13,su13,st13,BR13,HLL,HG13,fun _=>HO10.out,by go_num⟩
                    case measure=>simp [intOf];omega
        · obtain rfl:f=n-ps.length:=by omega
          have HD5:Hid (Dwn T0 T n C (j+1) ps d S):=HD.out.skip fun i h1 h2=>by
            have h3:=hz (i-ps.length) (by omega);rw [hent _ (by omega),show ps.length+(i-ps.length)=i by omega] at h3;exact h3
          clear hz hnz hent hLl;go_wp2;go_roundw;case rel=>exact ⟨j+1,T,us',ps,d,_,_,by omega,HD5,TS4,RP4,BP4,su4,st4,BR4,HLD,HG4,HOF,by go_num⟩
          case measure=>simp [intOf];omega
      · have hn0:n-ps.length=0:=by omega
        have SL:=TS.sub (o:=0) (m:=0) (c:=0) (by omega) (zB4 _) (by unfold maxLen;omega);go_wp2_with fail
        refine (yI0 _ _ j _ SL (fun r hr=>by simp at hr)).mono ?_;rintro e w4 ⟨f,rfl,hf,-,-,b4⟩;obtain rfl:f=0:=by simpa using hf
        have TS4:=TS.below b4;have RP4:=RP.below b4;have BP4:=BP.below b4;have su4:=su.below b4;have st4:=st.below b4;have BR4:=BR.below b4;have HG4:Hid (w.grownBy w4 (some g)):=zJ8 HG.out b4;have HD5:Hid (Dwn T0 T n C (j+1) ps d S):=HD.out.skip fun i h1 h2=>by omega
        clear TS RP BP su st BR HG SL;go_wp2;go_roundw;case rel=>exact ⟨j+1,T,us',ps,d,_,_,by omega,HD5,TS4,RP4,BP4,su4,st4,BR4,HLD,HG4,HOF,by go_num⟩
        case measure=>simp [intOf];omega
    · obtain rfl:j=pl:=by omega
      obtain ⟨V0,V1,V2,_,_,_⟩:=three BP;obtain ⟨R0,R1,R2,F0,F1,F2⟩:=three BR;have G9:=qT9 wr w.heap.size (.bool (ngB d.num)) (.slice Au (digs 4294967296 d.num.natAbs).length cu) (.slice At (digs 4294967296 d.den).length ct);have B9:=qM7 BR (.bool (ngB d.num)) (.slice Au (digs 4294967296 d.num.natAbs).length cu) (.slice At (digs 4294967296 d.den).length ct);have TS9:=TS.offQ HD.out.sh BR (no3 _) (by decide) G9 (fun hC0 u hu e=>HOF.out hC0 u hu _ e (.inl rfl));have RP9:=RP.grown G9 (fun x e1 e2=>RP.notBlk BR (by decide) x e1 e2);have s9:=Go.Proofs.YtagaabooccnamaaGreat.flow.off su BR (no3 _) G9;have d9:=Go.Proofs.YtagaabooccnamaaGreat.flow.off st BR (no3 _) G9;have HG9:Hid (w.grownBy _ (some g)):=zU5 HG.out G9 (zB4 _);obtain ⟨w9,hw9⟩:∃ w9,w9=(((wr.setCell ⟨w.heap.size,0,none⟩ (.bool (ngB d.num))).setCell ⟨w.heap.size,1,none⟩ (.slice Au (digs 4294967296 d.num.natAbs).length cu)).setCell ⟨w.heap.size,2,none⟩ (.slice At (digs 4294967296 d.den).length ct)):=⟨_,rfl⟩;rw [<- hw9] at B9 TS9 RP9 s9 d9 HG9;have bd:=(Below.refl w9.heap.size w9).drew;have B10:=B9.below bd;have HEND:Hid (yI4 T0 g n C j S w (.returned (.tuple #[u6,.agg #[.bool (ngB d.num),.slice Au (digs 4294967296 d.num.natAbs).length cu,.slice At (digs 4294967296 d.den).length ct]])) w9.drew):=⟨_,_,T,us',ps,d,rfl,HD.out,TS9.below bd,RP9.below bd,⟨_,_,rfl,s9.below bd,d9.below bd⟩,HLD.out,zJ8 HG9.out bd⟩;obtain ⟨C0,C1,C2,_,_,_⟩:=three B10;clear TS9 RP9 s9 d9 HG9 B9 bd B10;rw [hw9] at C0 C1 C2;have HW:=hQ9 hw9;clear hw9;go_upto_region 18 with (fail);go_region
      all_goals
        go_wp2;exact bodyPost_ret (v:=.tuple #[u6,.agg #[.bool (ngB d.num),.slice Au (digs 4294967296 d.num.natAbs).length cu,.slice At (digs 4294967296 d.den).length ct]]) (by simp [results,results90,go_sem,C0,C1,C2]) rfl (by have h:=HEND.out;rw [HW.out] at h;exact h)
end Go.Proofs.YtagaabooccnamaaGreat.rat
namespace Go.Proofs.YtagaabooccnamaaGreat.rat
open Go.RowKit Go.Shelf num mem nat txt str flow whl
attribute [local go_sem] Oper.semAt_some
theorem jE {F:Fence} {n:Nat} {P:Program} {ops:Array Oper} {Q:Exit->Act->World->Prop} {i:Nat} {K:Act->World->Prop} {a:Act} {w:World} (l:Nat) (hro:F.round=none) (hd:∀ (j:Nat) (o:Oper),ops[j]?=some o -> ∀ c,o.op ≠ .defer c) (h:wpOpIn F n P ops Q i K a w):wpOpIn (F.inRound l) n P ops Q i K a w:=by
 unfold wpOpIn at *
 split
 ·rename_i e
  rw [e] at h;exact h
 ·rename_i o e
  simp only [e] at h
  split
  ·rename_i hw
   simp only [hw,if_true] at h;unfold Oper.wpIn at *;refine ⟨h.1,?_⟩;have h:=h.2;rw [hro,Oper.semAt_none] at h;rw [Fence.inRound_round,Oper.semAt_some l _ o (hd i o e)]
   generalize (execOp a.eval o).run P w=r at *
   cases r with
   | ok x w'=>cases x<;>exact h
   | halt x w'=>cases x<;>exact h
  ·rename_i hw
   simp only [hw] at h;exact h
theorem yI5 {F:Fence} {n:Nat} {P:Program} {md:Region.Mode} {ops:Array Oper} {Q:Exit->Act->World->Prop} (l:Nat) (hro:F.round=none) (hd:∀ (j:Nat) (o:Oper),ops[j]?=some o -> ∀ c,o.op ≠ .defer c):∀ (fuel:Nat) (listed:Array Bool) (a:Act) (w:World),wpAnyIn F n P md ops Q fuel listed a w->wpAnyIn (F.inRound l) n P md ops Q fuel listed a w
 | 0,_,_,_,h=>h
 | fuel+1,listed,a,w,h=>⟨h.1,fun i hi=>jE l hro hd (wpOpIn_mono (fun a w h=>yI5 l hro hd fuel _ a w h) (h.2 i hi))⟩
theorem jE0 {n:Nat} {P:Program} {l:List Oper} {Q:Exit->Act->World->Prop} {id:Nat} {a:Act} {w:World} (r:Nat) (hm:P.follows .mixedOrders=true) (hd:l.all (fun o=>match o.op with | .defer _=>false | _=>true)=true)
  (h:wpAnyIn Fence.wide n P .any l.toArray Q l.length (Array.replicate l.length false) a w.drew):(Code.region id l.toArray true).wpIn (Fence.wide.inRound r) n P Q a w:=by
 refine wpIn_region_any hm ?_;refine yI5 r rfl (fun j o hj c hc => ?_) _ _ _ _ h;have h1:=List.all_eq_true.1 hd o (by simpa using zA5 (by simpa using hj));rw [hc] at h1;cases h1
theorem IsS.own {w w':World} {row:Option Nat} {k:IntKind} {v:Value} {l:List Nat} (h:IsS w k v l) (hg:w.grownBy w' row) (hr:∀ x,row=some x -> ∃ o:Obj,w.heap[x]?=some o/\o.isCells=false):IsS w' k v l:=by
 obtain ⟨A,c,e,h1,h2,h3⟩:=h;refine ⟨A,c,e,h1,h2,fun i d hd => ?_⟩;obtain ⟨ad,h4,h5⟩:=h3 i d hd;exact ⟨ad,h4,cell_kept h5 hg hr⟩
theorem SlF.own {w w':World} {row:Option Nat} {k:IntKind} {B:Nat} {v:Value} {r:List Rat} (h:SlF k B w v r) (hg:w.grownBy w' row) (hr:∀ x,row=some x -> ∃ o:Obj,w.heap[x]?=some o/\o.isCells=false):SlF k B w' v r:=by
 obtain ⟨ps,h1,⟨A,c,e1,h2,h3,h4⟩,h5⟩:=h;refine ⟨ps,h1,⟨A,c,e1,h2,h3,fun i p hp => ?_⟩,fun p hp=>⟨IsS.own (h5 p hp).1 hg hr,IsS.own (h5 p hp).2 hg hr⟩⟩;obtain ⟨g',o,e2,c0,c1,c2⟩:=h4 i p hp;exact ⟨g',o,e2,cell_kept c0 hg hr,cell_kept c1 hg hr,cell_kept c2 hg hr⟩
theorem zE4.ownK {w w':World} {row:Option Nat} {k:IntKind} {B g:Nat} {TS:TypeId} {us:List Value} {T:List (List Rat)} (h:zE4 k B w g TS us T) (hg:w.grownBy w' row) (hr:∀ x,row=some x -> ∃ o:Obj,w.heap[x]?=some o/\o.isCells=false):zE4 k B w' g TS us T:=by
 refine ⟨h.1.grown hg fun e => ?_,h.2.1,fun i u r hu h2=>SlF.own (h.2.2 i u r hu h2) hg hr⟩;obtain ⟨o,h1,h2⟩:=hr g e;have h3:=h.1.1;unfold Blk at h3;rw [h1] at h3;injection h3 with h3;subst h3;cases h2
def KpG (g n0:Nat) (W W':World):Prop:=W.heap.size<=W'.heap.size /\ ∀ k,k<n0->k<W.heap.size->k≠g->W'.heap[k]?=W.heap[k]?
theorem KpG.refl (g n0:Nat) (W:World):KpG g n0 W W:=⟨zB4 _,fun _ _ _ _=>rfl⟩
theorem KpG.trans {g n0:Nat} {A B C:World} (h:KpG g n0 A B) (k:KpG g n0 B C):KpG g n0 A C :=
 ⟨zB5 h.1 k.1,fun i hi hl hg=>(k.2 i hi (Nat.lt_of_lt_of_le hl h.1) hg).trans (h.2 i hi hl hg)⟩
theorem KpG.cell {g n0:Nat} {W W':World} {p:Addr} {v:Value} (h:KpG g n0 W W') (hp:W.cell? p=some v) (hn:p.block<n0) (hg:p.block≠g):W'.cell? p=some v:=by
 have h1:=h.2 p.block hn (World.block_lt_of_cell? _ _ hp) hg;exact (World.cell?_of_block h1).trans hp
abbrev BkT (ps:List Nat):={ x:Nat × Nat // x.1<ps.length/\x.2=pv ps x.1 }
def bkE {ps:List Nat} (x:BkT ps):Array Value:=#[.int .i64 (x.1.1:Int),.int .i64 (x.1.2:Int)]
def zP3 {ps:List Nat} (xs:List (BkT ps)):Prop:=∀ (t:Nat) (x:BkT ps),xs[t]?=some x->x.1.1+t+1=ps.length
theorem zP3.snoc {ps:List Nat} {xs:List (BkT ps)} {x:BkT ps} (h:zP3 xs) (hx:x.1.1+xs.length+1=ps.length):zP3 (xs ++ [x]):=fun t y hy=>by
 by_cases ht:t<xs.length
 ·rw [zB0 ht] at hy;exact h t y hy
 ·rw [List.getElem?_append_right (by omega)] at hy
  have e:t-xs.length=0:=by
   have:=(zA4.1 hy).1
   simp at this;omega
  rw [e] at hy;obtain rfl:x=y:=by simpa using hy
  omega
theorem zP3.init {ps:List Nat} {xs:List (BkT ps)} {x:BkT ps} (h:zP3 (xs ++ [x])):zP3 xs/\x.1.1+xs.length+1=ps.length :=
 ⟨fun t y hy=>h t y (by rw [zB0 (zA4.1 hy).1];exact hy),h xs.length x (by rw [List.getElem?_append_right (zB4 _)];simp)⟩
theorem jE1 (F:Fence) (n:Nat) (hf:F.fn 154) (hro:F.round=none) (hn:1<=n) (l Bs g n0 c:Nat) (A:Option Addr) (ps:List Nat) (hps:ps.length<=1000) (J Jx:List (BkT ps)->World->Prop)
  (hY : ∀ pre x W, J pre W -> pre.length < ps.length -> YieldAt F (n - 1) prog l (bkE x) W fun e W' =>
   (e=.returned (.bool true)/\J (pre ++ [x]) W'/\KpG g n0 W W')\/(e=.returned (.bool false)/\Jx (pre ++ [x]) W'))
  (W:World) (hBs:W.cell? ⟨Bs,0,none⟩=some (.slice A ps.length c)) (hBn:Bs<n0) (hBg:Bs≠g) (hc:∀ i,i<ps.length -> ∃ ad,A=some ad/\ad.block<n0/\ad.block≠g/\W.cell? (ad.add i)=some (.int .i64 (pv ps i:Int))) (h0:J [] W) :
  CallsIn F n prog 154 #[.func (.yield l) #[] #[],.pointer (some ⟨Bs,0,none⟩)] W fun e W'=>(∃ v,e=.returned v) /\
   ((∃ xs:List (BkT ps),(xs.length=ps.length/\zP3 xs)/\J xs W')\/(∃ pre,True/\Jx pre W')):=by
 refine callsIn_of_wp func154 rfl hf ?_ hro;simp only [ntmps154,List.size_toArray,List.length_cons,List.length_nil,Nat.reduceAdd,Nat.reduceSub,Array.replicate_succ,Array.replicate_zero,List.push_toArray,List.append_toArray,List.nil_append,List.cons_append]
 gi_wp2
 gi_loopw [3] (fun v3 wr => ∃ (z:Int) (xs:List (BkT ps)),z=(ps.length:Int)-1-(xs.length:Int)/\xs.length<=ps.length/\Hid (zP3 xs)/\v3=.int .i64 z/\Hid (J xs wr)/\Hid (KpG g n0 W wr)) (fun v3 _=>(intOf v3+1).toNat)
 case atStart=>exact ⟨_,[],by simp,Nat.zero_le _,(fun t x h=>by simp at h),rfl,h0,KpG.refl _ _ _⟩
 case round =>
  obtain ⟨z,xs,hz,hxl,HB,rfl,HJ,HK⟩:=hrel;have hBr:=HK.out.cell hBs hBn hBg;by_cases hlt:xs.length<ps.length
  ·obtain ⟨i,rfl⟩:∃ i:Nat,z=i:=⟨ps.length-1-xs.length,by omega⟩;have hip:i<ps.length:=by omega
   obtain ⟨ad,rfl,ha1,ha2,ha3⟩:=hc i hip;have hcx:=HK.out.cell ha3 (by unfold Addr.add;split<;>exact ha1) (by unfold Addr.add;split<;>exact ha2);obtain ⟨x,hx⟩:∃ x:BkT ps,x=⟨(i,pv ps i),hip,rfl⟩:=⟨_,rfl⟩;have hxe:bkE x = #[.int .i64 (i:Int),.int .i64 (pv ps i:Int)]:=by rw [hx];rfl
   have hxi:x.1.1=i:=by rw [hx]
   obtain ⟨fn,tmps,assign,body,hy,hR⟩:=hY xs x wr HJ.out hlt;rw [hxe] at hy;have HX:=hQ9 hxi;have HZ:=hQ9 hz;clear hx hxe hxi hz ha3 hc;have h0i:(0:Int)<=(i:Int):=by omega
   gi_wp2
   refine hR.mono ?_;rintro e W3 (⟨rfl,hJ3,hk3⟩|⟨rfl,hJx3⟩)
   ·have HB3:Hid (zP3 (xs ++ [x])):=HB.out.snoc (by rw [HX.out];have:=HZ.out;omega);have HK3:Hid (KpG g n0 W W3):=HK.out.trans hk3;have HJ3:=hQ9 hJ3;clear hJ3 hk3
    gi_wp2
    go_roundw;case rel=>exact ⟨(i:Int)-1,xs ++ [x],by (have:=HZ.out;first | (simp;omega) | (simp;done) | omega),by simp;omega,HB3,by go_num,HJ3,HK3⟩
    case measure=>first | (simp [intOf];omega) | (simp [intOf];done)
   ·gi_wp2
    refine bodyPost_ret (results_none rfl _ _ _) rfl ?_;exact ⟨⟨_,rfl⟩,.inr ⟨_,trivial,hJx3⟩⟩
  ·have hz0:¬ (0:Int)<=z:=by omega
   have hxe:xs.length=ps.length:=by omega
   have HXE:=hQ9 hxe;clear hxe
   gi_wp2
   go_end0
   exact ⟨⟨_,rfl⟩,.inl ⟨xs,⟨HXE.out,HB.out⟩,HJ.out⟩⟩
theorem back_in (F:Fence) (n:Nat) (hf:F.fn 131) (hro:F.round=none) (a:Option Addr) (len cap:Nat) (w:World) :
  CallsIn F n prog 131 #[.slice a len cap] w fun e w'=>e=.returned (.func (.func 154) #[] #[.pointer (some ⟨w.heap.size,0,none⟩)])/\w'=w.alloc (.cells #[.slice a len cap] 36):=by
 refine callsIn_of_wp func131 rfl hf ?_ hro;simp only [ntmps131,List.size_toArray,List.length_cons,List.length_nil,Nat.reduceAdd,Nat.reduceSub,Array.replicate_succ,Array.replicate_zero,List.push_toArray,List.append_toArray,List.nil_append,List.cons_append]
 gi_wp2
 go_ret;exact ⟨rfl,rfl⟩
theorem jE2 (F:Fence) (n:Nat) (hf:F.fn 154) (hro:F.round=none) (hn:1<=n) (Bs g c:Nat) (A:Option Addr) (ps:List Nat) (hps:ps.length<=1000) (w:World)
  (hBs:w.cell? ⟨Bs,0,none⟩=some (.slice A ps.length c)) (hBg:Bs≠g) (hc:∀ i,i<ps.length -> ∃ ad,A=some ad/\ad.block≠g/\w.cell? (ad.add i)=some (.int .i64 (pv ps i:Int))) :
  SeqStopsK F n prog 154 #[.pointer (some ⟨Bs,0,none⟩)] (bkE (ps:=ps)) (KpG g w.heap.size) (fun xs=>xs.length=ps.length/\zP3 xs) (fun _=>True) ps.length w:=fun l J Jx W hW _ _ hY h0=>by
 have hB1:=World.block_lt_of_cell? _ _ hBs
 exact jE1 F n hf hro hn l Bs g w.heap.size c A ps hps J Jx hY W ((hW.cell hB1).trans hBs) hB1 hBg (fun i hi=>by
  obtain ⟨ad,e,h1,h2⟩:=hc i hi;have h3:=World.block_lt_of_cell? _ _ h2;have h4:(ad.add i).block=ad.block:=by unfold Addr.add;split<;>rfl
  exact ⟨ad,e,by rw [<- h4];exact h3,h1,(hW.cell h3).trans h2⟩) h0
def UpI (T0:List (List Rat)) (g n C a S:Nat) (ps:List Nat) (w:World) (xs:List (BkT ps)) (W:World):Prop:=∃ (us:List Value) (T:List (List Rat)) (S':Nat),shp T n C/\zG8 T S'/\S'+1<=(S+1)*2^xs.length/\zE4 .u64 4294967296 W g 44 us T/\(zP3 xs->Upw T0 T n C a ps (ps.length-xs.length) S)/\W.cell? ⟨w.heap.size,0,none⟩=some (.slice (some ⟨g,0,none⟩) n n)/\w.grownBy W (some g)
theorem UpI.ownFrom (T0:List (List Rat)) (g n C a S:Nat) (ps:List Nat) (w:World) {B:Nat} (hB:w.heap.size<=B):OwnFrom B (UpI T0 g n C a S ps w):=fun xs W W' row h hg hr=>by
 obtain ⟨us,T,S',h1,h2,h3,h4,h5,h6,h7⟩:=h;have hr2:∀ x,row=some x -> ∃ o:Obj,W.heap[x]?=some o/\o.isCells=false:=fun x e=>(hr x e).2;refine ⟨us,T,S',h1,h2,h3,zE4.ownK h4 hg hr2,h5,cell_kept h6 hg hr2,?_⟩
 cases e:row with
 | none=>rw [e] at hg;exact zJ8 h7 ⟨hg.os,hg.tape,hg.output,hg.size,fun k hk=>hg.block k hk (by simp)⟩
 | some x=>rw [e] at hg;exact zU5 h7 hg (zB5 hB (hr x e).1)
def RetUp (T0:List (List Rat)) (g n C a S:Nat) (ps:List Nat) (w:World) (e:Ending) (w':World):Prop:=e=.returned (.tuple #[]) /\ ∃ us T,Upw T0 T n C a ps 0 S/\zE4 .u64 4294967296 w' g 44 us T/\w.grownBy w' (some g)
theorem gup_any (g n C a S c6:Nat) (A6:Option Addr) (us:List Value) (ps:List Nat) (T0 T:List (List Rat)) (w:World) (h:zE4 .u64 4294967296 w g 44 us T) (hp:∀ i,i<ps.length -> ∃ ad,A6=some ad/\ad.block≠g/\w.cell? (ad.add i)=some (.int .i64 (pv ps i:Int)))
  (hc:Hid (shp T n C/\a<=C/\n<=5/\C<=1000/\zG8 T S/\(S+1)*2^(ps.length-1)<=2450/\Ech n a (zC0 T) ps.length (pv ps)/\zH2 n C (zC0 T0) (zC0 T))) :
  Calls prog 91 #[.slice (some ⟨g,0,none⟩) n n,.slice A6 ps.length c6] w (RetUp T0 g n C a S ps w):=by
 have hle:=hc.out.2.2.2.2.2.2.1.le;have hn5:=hc.out.2.2.1;have hC:=hc.out.2.2.2.1;have hgl:=h.lt;refine (callsIn_wide (n:=3)).1 ?_;refine callsIn_of_wp_marks func91 rfl trivial ?_ rfl;simp only [ntmps91,List.size_toArray,List.length_cons,List.length_nil,Nat.reduceAdd,Nat.reduceSub,Array.replicate_succ,Array.replicate_zero,List.push_toArray,List.append_toArray,List.nil_append,List.cons_append]
 gi_wp2
 refine ⟨trivial,?_⟩
 gi_at_call 131
 refine (back_in Fence.wide _ trivial rfl _ _ _ _).mono ?_;rintro e w' ⟨rfl,rfl⟩
 gi_wp2
 have hgr0:w.grownBy ((w.alloc (.cells #[.slice (some ⟨g,0,none⟩) n n] 22)).alloc (.cells #[.slice A6 ps.length c6] 36)) none:=(World.grownBy_alloc _ _ none).trans (World.grownBy_alloc _ _ none)
 have hs:((w.alloc (.cells #[.slice (some ⟨g,0,none⟩) n n] 22)).alloc (.cells #[.slice A6 ps.length c6] 36)).cell? ⟨w.heap.size,0,none⟩=some (.slice (some ⟨g,0,none⟩) n n) :=
  cell_kept (by rw [World.cell?_alloc_new];rfl) (World.grownBy_alloc _ _ none) (fun r e=>by cases e)
 have hb:((w.alloc (.cells #[.slice (some ⟨g,0,none⟩) n n] 22)).alloc (.cells #[.slice A6 ps.length c6] 36)).cell? ⟨w.heap.size+1,0,none⟩=some (.slice A6 ps.length c6):=by
  have:=World.cell?_alloc_new (w:=w.alloc (.cells #[.slice (some ⟨g,0,none⟩) n n] 22)) #[.slice A6 ps.length c6] 36 0
  rw [World.size_alloc] at this;exact this
 have hT0:=zE4.ownK h hgr0 (fun x e=>by cases e);obtain ⟨W0,hW0⟩:∃ W0,((w.alloc (.cells #[.slice (some ⟨g,0,none⟩) n n] 22)).alloc (.cells #[.slice A6 ps.length c6] 36))=W0:=⟨_,rfl⟩;have hsz:W0.heap.size=w.heap.size+2:=by rw [<- hW0];simp
 rw [hW0] at hgr0 hs hb hT0 |-
 refine wpIn_rangeFunc_ownF rfl (by omega) (gf:=154) (lb:=#[.pointer (some ⟨w.heap.size+1,0,none⟩)]) rfl trivial (enters_of func154 (by kernel_rfl) rfl)
  (jE2 Fence.wide _ trivial rfl (by omega) (w.heap.size + 1) g c6 A6 ps (by omega) W0 hb (by omega) (fun i hi => by
   obtain ⟨ad,e,h1,h2⟩:=hp i hi;exact ⟨ad,e,h1,cell_kept h2 hgr0 (fun r e=>by cases e)⟩))
  KpG.trans (fun W l o o' hl hW ho hwk=>⟨(grownBy_putObj' W l o').size,fun k hk hkw hkg=>(grownBy_putObj' W l o').block k hkw (fun e=>by injection e with e;omega)⟩) (Below.refl _ _) (fun _=>rfl)
  (UpI T0 g n C a S ps w) (fun _ _ _=>False)
  (UpI.ownFrom T0 g n C a S ps w (by omega))
  (fun _ _ _ _ _ hs _ _=>hs)
  ⟨us,T,S,hc.out.1,hc.out.2.2.2.2.1,by simp,hT0,fun _=>Upw.start hc.out.1 hc.out.2.2.2.2.2.2.1 hc.out.2.2.2.2.2.2.2 hc.out.2.2.2.2.1,hs,⟨hgr0.os,hgr0.tape,hgr0.output,hgr0.size,fun k hk _=>hgr0.block k hk (by simp)⟩⟩
  (fun x => { tmps:=#[.slice (some ⟨g,0,none⟩) n n,.slice A6 ps.length c6,.pointer (some ⟨w.heap.size,0,none⟩),undef,.int .i64 (x.1.1:Int),.int .i64 (x.1.2:Int),.slice A6 ps.length c6,.func (.func 154) #[] #[.pointer (some ⟨w.heap.size+1,0,none⟩)],.int .i64 (x.1.1:Int),.int .i64 (x.1.2:Int),undef,undef,undef,undef,undef,undef,undef,undef,undef],defers:=[] }) ?assign ?body ?done ?stop
 case assign =>
  intro l x W K hK;simp only [bkE]
  gi_wp2
  exact hK
 case body =>
  rintro l pre x W ⟨us1,T1,S1,q1,q2,q3,q4,q5,q6,q7⟩ hlen;obtain ⟨⟨i,p⟩,hip,hpe⟩:=x
  dsimp only at hip hpe
  subst hpe;obtain ⟨r,hr,hrl⟩:=zH7 q1 (show i<n by omega);obtain ⟨Ar,cr,hu,hcl,hsr⟩:=q4.at_ hr;have HQ:=hQ9 (zA q1 (zA q2 (zA q3 q5)))
  have hS1:Hid (S1+S1<=4900):=by
   have e2:(S+1)*2^pre.length<=(S+1)*2^(ps.length-1):=Nat.mul_le_mul_left _ (Nat.pow_le_pow_right (by omega) (by omega));have e3:=hc.out.2.2.2.2.2.1;exact (by omega:S1+S1<=4900)
  have hai:pv ps i<C:=Nat.lt_of_lt_of_le (hc.out.2.2.2.2.2.2.1.lt i hip) hc.out.2.1;obtain ⟨b,hbp⟩:∃ b,b=pv ps i:=⟨_,rfl⟩;have HBP:=hQ9 hbp
  have CC:∀ w',zE4 .u64 4294967296 w' g 44 us1 T1->SlF .u64 4294967296 w' (.slice Ar r.length cr) r->Calls prog 130 #[.slice (some ⟨g,0,none⟩) i n,.slice Ar r.length cr,.int .i64 (pv ps i:Int)] w' (qM9 g us1 (upT T1 i (pv ps i)) w'):=fun w' k1 k2=>by
   have:=yI1 g 0 i n (pv ps i) n C S1 us1 (.slice Ar r.length cr) r T1 (fun _=>true) w' k1 k2 ⟨HQ.out.1,hrl,hai,by omega,by omega,by omega,hC,fun i hi=>absurd hi (by omega),fun _ _ _=>rfl,HQ.out.2.1,HQ.out.2.1 r (zA5 hr),fun _=>hS1.out⟩
   rw [Nat.zero_add] at this;unfold upT;rw [zJ2 hr];exact this
  rw [hrl] at hu hcl hsr CC;have HRL:=hQ9 (zA hr hrl);have hin:i<=n:=by omega
  have hin2:i<n:=by omega
  have hmix:prog.follows .mixedOrders=true:=by kernel_rfl
  have fin:∀ (a':Act) (W':World) (us2:List Value),zE4 .u64 4294967296 W' g 44 us2 (upT T1 i (pv ps i))->W.drew.grownBy W' (some g)->ownPostK (KpG g W0.heap.size) (UpI T0 g n C a S ps w) (fun _ _ _=>False) (pre ++ [(⟨(i,pv ps i),hip,rfl⟩:BkT ps)]) W .normal a' W':=fun a' W' us2 k1 k2=>by
   have G:W.grownBy W' (some g):=(zJ8 (qN W (some g)) (Below.refl _ W).drew).trans k2;have hgW:=q4.1.1;have hgl2:=q4.lt;unfold Blk at hgW;obtain ⟨e1,e2,e3,e4⟩:=HQ.out;refine ⟨KeepsOthers.of_grownBy G (fun j o e hj=>by cases e;rw [hgW] at hj;cases hj;rfl),⟨G.size,fun k hk hl hkg=>G.block k hl (fun e=>by injection e with e;omega)⟩,?_⟩;refine ⟨us2,_,S1+S1+1,?_,?_,?_,k1,fun hB => ?_,(World.cell?_of_block (G.block w.heap.size (World.block_lt_of_cell? _ _ q6) (fun e=>by injection e with e;omega))).trans q6,q7.trans G⟩
   ·unfold upT;rw [zJ2 hr];exact qG0 e1 hrl i (by omega)
   ·unfold upT;rw [zJ2 hr];exact qL9 e1 hai e2 (e2 r (zA5 hr)) i (by omega)
   ·rw [zA8];exact qM e3
   ·obtain ⟨b1,b2⟩:=zP3.init hB;have b3:i+pre.length+1=ps.length:=b2;have u1:=e4 b1;rw [show ps.length-pre.length=i+1 by omega] at u1;have u2:=u1.step hc.out.2.1 hip;rw [show ps.length-(pre ++ [(⟨(i,pv ps i),hip,rfl⟩:BkT ps)]).length=i by rw [zA8];simp only [List.length_cons,List.length_nil];omega];exact u2
  have hcall:Calls prog 130 #[.slice (some ⟨g,0,none⟩) i n,.slice Ar C cr,.int .i64 (pv ps i:Int)] W.drew (qM9 g us1 (upT T1 i (pv ps i)) W.drew):=CC W.drew q4.drew hsr.drew;clear CC HQ q4 hsr q1 q2 q3 q5 hS1 hai hp hT0 hb hs hgr0 hc;obtain ⟨QQ,hQQ⟩:∃ QQ,QQ=ownPostK (KpG g W0.heap.size) (UpI T0 g n C a S ps w) (fun _ _ _=>False) (pre ++ [(⟨(i,pv ps i),hip,rfl⟩:BkT ps)]) W:=⟨_,rfl⟩;rw [<- hQQ] at fin;have HPAN:∀ c a a' w,QQ (.panic c) a w->QQ (.panic c) a' w:=by rw [hQQ];exact fun _ _ _ _ h=>h
  show Code.wpIn _ _ _ _ (ownPostK (KpG g W0.heap.size) (UpI T0 g n C a S ps w) (fun _ _ _=>False) (pre ++ [(⟨(i,pv ps i),hip,rfl⟩:BkT ps)]) W) _ _
  rw [<- hQQ];clear hQQ
  gi_wp2
  have HPN:∀ (o:Option Nat) (v:Value) c a w,Exit.inBlock 1 QQ (.panic c) (a.put o v) w->Exit.inBlock 1 QQ (.panic c) a w:=fun o v c a w h=>HPAN c _ a w h;refine jE0 l hmix (by kernel_rfl) ?_
  change wpAnyIn Fence.wide 1 prog .any _ _ 9 #[false,false,false,false,false,false,false,false,false] _ _
  refine wpAnyIn_take (i:=1) (v:=?_) rfl rfl (by kernel_rfl) (by kernel_rfl) (by kernel_rfl) (HPN _ _) ⟨Or.inl ⟨by rfl,?_⟩,fun _=>rfl⟩ ?_
  rotate_left
  ·intro w;go_simp
   try with_reducible rfl
  refine wpAnyIn_take (i:=4) (v:=?_) rfl rfl (by kernel_rfl) (by kernel_rfl) (by kernel_rfl) (HPN _ _) ⟨Or.inl ⟨by rfl,?_⟩,fun _=>rfl⟩ ?_
  rotate_left
  ·intro w;go_simp
   try with_reducible rfl
  refine wpAnyIn_take (i:=7) (v:=?_) rfl rfl (by kernel_rfl) (by kernel_rfl) (by kernel_rfl) (HPN _ _) ⟨Or.inl ⟨by rfl,?_⟩,fun _=>rfl⟩ ?_
  rotate_left
  ·intro w;go_simp
   try with_reducible rfl
  refine wpAnyIn_ready (rs:=[0,3]) (by kernel_rfl) (by simp) ?_;refine AllReadyIn.cons rfl (fun K hK => ?_) ?_
  ·go_simp;refine hK _ _ ?_;clear hK K;refine wpAnyIn_take (i:=2) (v:=?_) rfl rfl (by kernel_rfl) (by kernel_rfl) (by kernel_rfl) (HPN _ _) ⟨Or.inl ⟨by rfl,?_⟩,fun _=>rfl⟩ ?_
   rotate_left
   ·intro w;go_simp
    try with_reducible rfl
   refine wpAnyIn_ready (rs:=[3]) (by kernel_rfl) (by simp) ?_;refine AllReadyIn.cons rfl (fun K hK => ?_) ?_
   ·go_simp;refine hK _ _ ?_;clear hK K;refine wpAnyIn_take (i:=5) (v:=?_) rfl rfl (by kernel_rfl) (by kernel_rfl) (by kernel_rfl) (HPN _ _) ⟨Or.inl ⟨by rfl,?_⟩,fun _=>rfl⟩ ?_
    rotate_left
    ·intro w;go_simp
     try with_reducible rfl
    refine wpAnyIn_ready (rs:=[6]) (by kernel_rfl) (by simp) ?_;refine AllReadyIn.cons rfl (fun K hK => ?_) ?_
    ·go_simp;refine hK _ _ ?_;clear hK K;refine wpAnyIn_ready (rs:=[8]) (by kernel_rfl) (by simp) ?_;refine AllReadyIn.cons rfl (fun K hK => ?_) AllReadyIn.nil;go_simp;refine ⟨trivial,?_⟩;refine (callsIn_wide.2 hcall).mono ?_;rintro e w' ⟨rfl,us2,k1,k2,-⟩;refine hK _ _ ?_;refine wpAnyIn_done (by kernel_rfl) ?_ _;exact fin _ _ us2 k1 k2
    exact AllReadyIn.nil
   exact AllReadyIn.nil
  refine AllReadyIn.cons rfl (fun K hK => ?_) ?_
  ·go_simp;refine hK _ _ ?_;clear hK K;refine wpAnyIn_take (i:=5) (v:=?_) rfl rfl (by kernel_rfl) (by kernel_rfl) (by kernel_rfl) (HPN _ _) ⟨Or.inl ⟨by rfl,?_⟩,fun _=>rfl⟩ ?_
   rotate_left
   ·intro w;go_simp
    try with_reducible rfl
   refine wpAnyIn_ready (rs:=[0,6]) (by kernel_rfl) (by simp) ?_;refine AllReadyIn.cons rfl (fun K hK => ?_) ?_
   ·go_simp;refine hK _ _ ?_;clear hK K;refine wpAnyIn_take (i:=2) (v:=?_) rfl rfl (by kernel_rfl) (by kernel_rfl) (by kernel_rfl) (HPN _ _) ⟨Or.inl ⟨by rfl,?_⟩,fun _=>rfl⟩ ?_
    rotate_left
    ·intro w;go_simp
     try with_reducible rfl
    refine wpAnyIn_ready (rs:=[6]) (by kernel_rfl) (by simp) ?_;refine AllReadyIn.cons rfl (fun K hK => ?_) ?_
    ·go_simp;refine hK _ _ ?_;clear hK K;refine wpAnyIn_ready (rs:=[8]) (by kernel_rfl) (by simp) ?_;refine AllReadyIn.cons rfl (fun K hK => ?_) AllReadyIn.nil;go_simp;refine ⟨trivial,?_⟩;refine (callsIn_wide.2 hcall).mono ?_;rintro e w' ⟨rfl,us2,k1,k2,-⟩;refine hK _ _ ?_;refine wpAnyIn_done (by kernel_rfl) ?_ _;exact fin _ _ us2 k1 k2
    exact AllReadyIn.nil
   refine AllReadyIn.cons rfl (fun K hK => ?_) ?_
   ·go_simp;refine hK _ _ ?_;clear hK K;refine wpAnyIn_ready (rs:=[0]) (by kernel_rfl) (by simp) ?_;refine AllReadyIn.cons rfl (fun K hK => ?_) ?_
    ·go_simp;refine hK _ _ ?_;clear hK K;refine wpAnyIn_take (i:=2) (v:=?_) rfl rfl (by kernel_rfl) (by kernel_rfl) (by kernel_rfl) (HPN _ _) ⟨Or.inl ⟨by rfl,?_⟩,fun _=>rfl⟩ ?_
     rotate_left
     ·intro w;go_simp
      try with_reducible rfl
     refine wpAnyIn_ready (rs:=[8]) (by kernel_rfl) (by simp) ?_;refine AllReadyIn.cons rfl (fun K hK => ?_) AllReadyIn.nil;go_simp;refine ⟨trivial,?_⟩;refine (callsIn_wide.2 hcall).mono ?_;rintro e w' ⟨rfl,us2,k1,k2,-⟩;refine hK _ _ ?_;refine wpAnyIn_done (by kernel_rfl) ?_ _;exact fin _ _ us2 k1 k2
    exact AllReadyIn.nil
   exact AllReadyIn.nil
  exact AllReadyIn.nil
 case done =>
  rintro D xs W hD ⟨hxl,hB⟩ ⟨us1,T1,S1,q1,q2,q3,q4,q5,q6,q7⟩ hK;have hup:=q5 hB;rw [show ps.length-xs.length=0 by omega] at hup;have hDl:∃ o:Obj,W.heap[D]?=some o/\o.isCells=false:=⟨_,hK,rfl⟩;refine ⟨by simp,.inl ⟨_,_,rfl,run_takeDeferred hK,?_⟩⟩;refine ⟨_,results_none rfl _ _ _,rfl,us1,T1,hup,zE4.ownK q4 (grownBy_putObj' W D (.deferred none)) (fun x e=>by cases e;exact hDl),?_⟩;exact zU5 q7 (grownBy_putObj' W D (.deferred none)) (by omega)
 case stop =>
  rintro D c pre W _ _ h _;exact h.elim
theorem shp_of {T:List (List Rat)} (h:zI3 T):shp T T.length (zD2 T):=⟨rfl,h.2.2⟩
theorem pI_at {ps:List Nat} {i:Nat} (h:i<ps.length):(pI ps)[i]?=some (.int .i64 (pv ps i:Int)):=by
 unfold pI vi pv;rw [List.map_map,zB1,zA3 h];simp [zA6,h]
theorem zE.pvs {w:World} {base g m c:Nat} {TS:TypeId} {us:List Value} {A:Option Addr} {ps:List Nat} (h:zE isI w base 3 (.slice A m c) (pI ps)) (hT:zG9 w g TS us) (hne:3≠TS):∀ i,i<ps.length -> ∃ ad,A=some ad/\ad.block≠g/\w.cell? (ad.add i)=some (.int .i64 (pv ps i:Int)):=fun i hi=>by
 have hn:=h.notTab hT hne;rcases h.1.2 with ⟨e,h0⟩|⟨g',cap,cur,e,_⟩
 ·rw [zS7] at h0;omega
 ·have e2:=e;injection e2 with e1 e2 e3;subst e1;have hc:=h.1;rw [e] at hc;refine ⟨_,rfl,fun e4=>hn (by rw [<- e4];rfl),?_⟩;rw [zR2];exact hc.cellAt (pI_at hi)
theorem zE.weak {S:Value->Prop} {w:World} {base base':Nat} {e:TypeId} {v:Value} {vs:List Value} (h:zE S w base e v vs) (hb:base'<=base):zE S w base' e v vs:=⟨zD6.weak h.1 hb,h.2⟩
theorem qU0 {S n m:Nat} (h:m<=n):(S+1)*2^m<=(S+1)*2^n:=Nat.mul_le_mul_left _ (Nat.pow_le_pow_right (by omega) h)
structure RedE (T0:List (List Rat)) (n C S:Nat) (w:World) (g:Nat) (v:Value) (w':World) (T:List (List Rat)) (us:List Value) (ps:List Nat):Prop where
 sh:shp T n C
 ech:Ech n C (zC0 T) ps.length (pv ps)
 red:Red n (zC0 T) ps.length (pv ps) 0
 ker:zH2 n C (zC0 T0) (zC0 T)
 len:∃ S',zG8 T S'/\S'+1<=(S+1)*2^(min ps.length (n-1))*2^(ps.length-1)
 tab:zE4 .u64 4294967296 w' g 44 us T
 piv:zE isI w' w.heap.size 3 v (pI ps)
 bel:Below w.heap.size w w'
 lo:w.heap.size<=g
def qG8 (T:List (List Rat)) (S:Nat):Prop:=T.length<=5/\zD2 T<=200/\zG8 T S/\S<=100000/\(S+1)*2^(T.length-1)<=400/\(S+1)*2^(T.length-1)*2^(T.length-1)<=2450
theorem jE3 (a0:Value) (T:List (List Rat)) (S:Nat) (w:World) (h0:SlT .u64 4294967296 w a0 T) (hc:Hid (qG8 T S)) :
  Calls prog 47 #[a0] w (fun e w'=>(zI3 T /\ ∃ g v T' us ps,e=.returned (.tuple #[.slice (some ⟨g,0,none⟩) T.length T.length,v,.int .i64 0])/\RedE T T.length (zD2 T) S w g v w' T' us ps)\/(¬ zI3 T/\e=.returned (.tuple #[.slice none 0 0,.slice none 0 0,.int .i64 8])/\Below w.heap.size w w')):=by
 have st0:=h0;obtain ⟨A0,c0,rfl,hc0,hm0⟩:=h0.shape;obtain ⟨n,hn⟩:∃ n,n=T.length:=⟨_,rfl⟩;obtain ⟨C,hC⟩:∃ C,C=zD2 T:=⟨_,rfl⟩;have HST:=hQ9 st0;clear h0 st0 hc0 hm0
 go_enter func47,ntmps47;go_wp2_with fail
 refine (jD4 _ T _ HST.out ⟨hc.out.2.1,by have:=hc.out.1;omega,hc.out.2.2.1.len.mono hc.out.2.2.2.1⟩).mono ?_;rintro e w2 (⟨hm,g,us,pss,rfl,hT,hV,hU,hg,b2⟩|⟨hm,V,rfl,hS,b2⟩)
 ·have TS:=TabO.tabS hT hU;rw [hV] at TS;rw [<- hn];rw [<- hn] at hU;have HM:=hQ9 hm;have HH:=hQ9 (zA hn hC);have sl:=TS.slT hn.symm (by have:=hc.out.1;omega);clear hT hV hn hC hm
  go_wp2_with fail
  refine (qG7 _ T _ sl).mono ?_;rintro e w3 ⟨rfl,b3⟩;rw [<- HH.out.1,<- HH.out.2];have TS3:=TS.below b3;have b23:=b2.trans (b3.mono b2.size);clear sl TS b3 b2;go_wp2_with fail
  refine (jD9 g n C C S us T _ TS3 ⟨by rw [HH.out.1,HH.out.2];exact shp_of HM.out,zB4 _,by rw [HH.out.1];exact hc.out.1,by rw [HH.out.2];have:=hc.out.2.1;omega,hc.out.2.2.1,by rw [HH.out.1];exact hc.out.2.2.2.2.1⟩).mono ?_;rintro e w4 ⟨v,v5,T4,us4,ps,d,rfl,hD⟩;obtain ⟨dwn,tab,piv,num,len,own⟩:=hD;obtain ⟨u,t,rfl,su,st⟩:=num;obtain ⟨Au,cu,rfl,_⟩:=id su;obtain ⟨At,ct,rfl,_⟩:=id st;obtain ⟨A6,c6,e6⟩:=zD6.slice piv.1;rw [zS7] at e6;subst e6;have hpn:ps.length<=n:=dwn.ech.le;have b24:=b23.grown own b23.size (fun k e=>by cases e;exact hg);obtain ⟨S1,r1,hS1⟩:=dwn.len;have hp1:=qU0 (S:=S) (show min ps.length (n-1)<=n-1 by omega);have hp2:=qU0 (S:=S1) (show ps.length-1<=n-1 by omega);have hm2:(S1+1)*2^(n-1)<=(S+1)*2^(n-1)*2^(n-1):=Nat.mul_le_mul_right _ (zB5 hS1 hp1);have hq1:=hc.out.2.2.2.2.2;rw [<- HH.out.1] at hq1;have HB:=hQ9 (zA hp1 (zA hp2 (zA hm2 (zA hq1 hS1))));clear hp1 hp2 hm2 hq1 hS1;have ba:=zD1 (w:=w4) (zB4 _) (.cells #[.bool (ngB d.num),.slice Au (digs 4294967296 d.num.natAbs).length cu,.slice At (digs 4294967296 d.den).length ct] 83);have tab4:=tab.below ba;have piv4:=(piv.below ba).weak b23.size;have b25:=b24.trans (ba.mono b24.size);have HDW:=hQ9 dwn;have HR1:=hQ9 r1;clear tab piv ba dwn r1 su st own TS3 b23 b24;go_wp2_with fail
  have cu:=gup_any g n C C S1 c6 A6 us4 ps T T4 _ tab4 (piv4.pvs tab4.1 (by decide)) ⟨HDW.out.sh,zB4 _,by rw [HH.out.1];exact hc.out.1,by rw [HH.out.2];have:=hc.out.2.1;omega,HR1.out,by have:=HB.out;omega,HDW.out.ech,HDW.out.ker⟩;refine cu.mono ?_;rintro e w6 ⟨rfl,us6,T6,hU6,tab6,own6⟩;have piv6:=piv4.grown own6 (fun x e1 e2=>piv4.notTab tab4.1 (by decide) (by rw [e1,e2]));have b26:=b25.grown own6 b25.size (fun k e=>by cases e;exact hg);clear cu piv4 tab4;go_wp2
  go_ret3
  refine .inl ⟨HM.out,g,.slice A6 ps.length c6,T6,us6,ps,?_,?_⟩
  ·rw [<- HH.out.1]
   rfl
  ·rw [<- HH.out.1,<- HH.out.2];obtain ⟨S2,r2,hS2⟩:=hU6.len;refine ⟨hU6.sh,hU6.ech,hU6.red,hU6.ker,⟨S2,r2,zB5 hS2 ?_⟩,tab6,piv6,b26,hg⟩;exact Nat.mul_le_mul HB.out.2.2.2.2 (Nat.pow_le_pow_right (by omega) (by omega))
 ·rw [if_neg (by decide)] at hS;obtain ⟨AV,cV,rfl,-,-⟩:=hS.shape;have HN:=hQ9 hm;clear hm;go_wp2
  go_ret3
  exact .inr ⟨HN.out,rfl,b2⟩
def PvI (w:World) (v:Value) (ps:List Nat):Prop:=∃ A c,v=.slice A ps.length c /\ ∀ i,i<ps.length -> ∃ ad,A=some ad/\w.cell? (ad.add i)=some (.int .i64 (pv ps i:Int))
theorem PvI.below {w w':World} {v:Value} {ps:List Nat} (h:PvI w v ps) (hb:Below w.heap.size w w'):PvI w' v ps:=by
 obtain ⟨A,c,e,h1⟩:=h;refine ⟨A,c,e,fun i hi => ?_⟩;obtain ⟨ad,e2,h2⟩:=h1 i hi;exact ⟨ad,e2,(hb.cell (World.block_lt_of_cell? _ _ h2)).trans h2⟩
theorem zE.pvI {w:World} {base:Nat} {v:Value} {ps:List Nat} (h:zE isI w base 3 v (pI ps)):PvI w v ps:=by
 obtain ⟨A,c,e⟩:=zD6.slice h.1;rw [zS7] at e;subst e;refine ⟨A,c,rfl,fun i hi => ?_⟩;rcases h.1.2 with ⟨e,h0⟩|⟨g',cap,cur,e,_⟩
 ·rw [zS7] at h0;omega
 ·have e2:=e;injection e2 with e1 e2 e3;subst e1;have hc:=h.1;rw [e] at hc;refine ⟨_,rfl,?_⟩;rw [zR2];exact hc.cellAt (pI_at hi)
theorem jE4 {T:List (List Rat)} {n C:Nat} (h:shp T n C) (h0:n=0->C=0):zD2 T=C:=by
 cases T with
 | nil=>exact (h0 h.1.symm).symm
 | cons r T=>exact h.2 r List.mem_cons_self
theorem qU1 (n:Nat) (f:Nat->Rat):∀ m,zC5 (n+m) f=zC5 n f+zC5 m (fun j=>f (n+j))
  | 0=>(Rat.add_zero _).symm
  | m + 1 => by
    show zC5 (n+m) f+f (n+m)=zC5 n f+(zC5 m (fun j=>f (n+j))+f (n+m))
    rw [qU1 n f m,Rat.add_assoc]
def zO7 (n:Nat) (A X:Nat->Nat->Rat):Nat->Nat->Rat:=fun i j=>if j<n then A i j else X i (j-n)
theorem yI6 (n m:Nat) (A X:Nat->Nat->Rat) (x y:Nat->Rat) (i:Nat):zC5 (n+m) (fun j=>zO7 n A X i j*(if j<n then x j else y (j-n)))=zC5 n (fun j=>A i j*x j)+zC5 m (fun j=>X i j*y j):=by
 rw [qU1]
 congr 1
 ·exact zH1 fun j hj=>by unfold zO7;rw [if_pos hj,if_pos hj]
 ·exact zH1 fun j hj=>by unfold zO7;rw [if_neg (by omega),if_neg (by omega),Nat.add_sub_cancel_left]
theorem sum_idF {n i:Nat} (hi:i<n) (x:Nat->Rat):zC5 n (fun j=>idF i j*x j)=x i:=by
 rw [zR1 hi (fun j _ hne=>by unfold idF;rw [if_neg (fun e=>hne e.symm),Rat.zero_mul])];unfold idF;rw [if_pos rfl,Rat.one_mul]
theorem yI7 (n:Nat) (f g:Nat->Rat):zC5 n (fun j=>f j * -(g j)) = -(zC5 n (fun j=>f j*g j)):=by
 have h:=zL4 n (-1) (fun j=>f j*g j);rw [show (-1:Rat)*zC5 n (fun j=>f j*g j) = -(zC5 n (fun j=>f j*g j)) by grind] at h;rw [<- h];exact zH1 fun j _=>by grind
end Go.Proofs.YtagaabooccnamaaGreat.rat
namespace Go.Proofs.YtagaabooccnamaaGreat.rat
open Go.RowKit num mem nat txt str flow whl
theorem yI8 (n:Nat) (M:Nat->Nat->Rat):∀ a,a<=n -> ∃ (c:Rat) (E:Nat->Nat->Rat) (k:Nat) (p:Nat->Nat),Ech n a E k p /\ ∀ f,RowFn n n f->f M=c*f E
  | 0,_=>⟨1,M,0,id,Ech.zero n M id,fun f _=>by grind⟩
  | a + 1, ha => by
    obtain ⟨c,E,k,p,hE,hf⟩:=yI8 n M a (by omega);by_cases h0:∀ i,k<=i->i<n->E i a=0
    · exact ⟨c,E,k,p,hE.skip h0,hf⟩
    · obtain ⟨i,hi,hin,hne⟩:∃ i,k<=i/\i<n/\E i a≠0:=Classical.byContradiction fun h=>h0 fun i h1 h2=>Classical.byContradiction fun h3=>h ⟨i,h1,h2,h3⟩
      obtain ⟨c1,E1,hE1,hf1,hne1⟩:∃ (c1:Rat) (E1:Nat->Nat->Rat),Ech n a E1 k p/\(∀ f,RowFn n n f->f M=c1*f E1)/\E1 k a≠0:=by
        by_cases e:k=i
        · subst e;exact ⟨c,E,hE,hf,hne⟩
        · refine ⟨-c,zE9 E k i,hE.swap hi hin,fun f h => ?_,?_⟩
          · rw [hf f h,h.swap E (by omega) hin e];grind
          · unfold zE9;rw [if_pos rfl];exact hne
      have hk:k<n:=by omega
      have hE2:=hE1.scale (E1 k a)⁻¹;have h1:zG0 E1 k (E1 k a)⁻¹ k a=1:=by unfold zG0;rw [if_pos rfl];exact Rat.mul_inv_cancel _ hne1
      have hE3:=hE2.clear (t:=fun i=>if i=k then 0 else zG0 E1 k (E1 k a)⁻¹ i a) hk h1 (if_pos rfl) (fun i hki _=>if_neg (by omega));refine ⟨c1*E1 k a,_,_,_,hE3,fun f h => ?_⟩;rw [h.clear _ hk (if_pos rfl),h.scale _ _ _ hk,hf1 f h]
      have:=Rat.mul_inv_cancel _ hne1
      grind
theorem yI9 {n:Nat} {f:(Nat->Nat->Rat)->Rat} (h:RowFn n n f) (M:Nat->Nat->Rat):f M=zC8 n M*f idF:=by
 obtain ⟨c,E,k,p,hE,hf⟩:=yI8 n M n (zB4 n);rw [hf f h,hf _ (zS1 n),h.steps hE,(zS1 n).steps hE,qF8]
 split<;>grind
theorem jE5 (n:Nat) (M B:Nat->Nat->Rat):zC8 n (zP9 n M B)=zC8 n M*zC8 n B:=by
 have h:=yI9 (yZ n B) M;have e:zC8 n (zP9 n idF B)=zC8 n B:=zK7 n fun i j hi _=>mulF_id n B hi;rw [<- e];exact h
def zH8 (M:Nat->Nat->Rat) (c:Nat) (v:Nat->Rat):Nat->Nat->Rat:=fun i j=>if j=c then v i else M i j
theorem jE6 (n c:Nat) (v:Nat->Rat) (hc:c<n):zC8 n (zH8 idF c v)=v c:=by
 have hd:=zS1 n;by_cases h0:v c=0
 ·rw [hd.zero hc (fun j _=>by
   unfold zH8 idF;by_cases e:j=c
   ·rw [if_pos e,h0]
   ·rw [if_neg e,if_neg (fun h=>e h.symm)]),h0]
 ·have h1:=hd.clear (zH8 idF c v) (p:=c) (t:=fun i=>if i=c then 0 else v i*(v c)⁻¹) hc (if_pos rfl);have h2:=hd.scale idF c (v c) hc;have hi:=Rat.mul_inv_cancel _ h0;rw [<- h1,hd.congr _ (zG0 idF c (v c)) (fun i j hi' hj => ?_),h2,qF8]
  ·grind
  ·unfold zJ1 zH8 zG0 idF;by_cases e1:i=c<;>by_cases e2:j=c
   ·subst e1;subst e2;simp;grind
   ·subst e1;simp only [if_true,if_neg e2,if_neg (fun h:i=j=>e2 h.symm)];grind
   ·subst e2;simp only [if_neg e1,if_true];grind
   ·simp only [if_neg e1,if_neg e2,if_neg (show ¬ c=j from fun h=>e2 h.symm)];grind
theorem zZ2 (n:Nat) (M:Nat->Nat->Rat) (c:Nat) (v:Nat->Rat) (hc:c<n):zC8 n (zH8 M c (fun i=>zC5 n (fun l=>M i l*v l)))=v c*zC8 n M:=by
 have h:=jE5 n M (zH8 idF c v);rw [jE6 n c v hc] at h;rw [show v c*zC8 n M=zC8 n M*v c by grind,<- h];refine zK7 n fun i j hi hj => ?_;unfold zH8 zP9;by_cases e:j=c
 ·simp only [if_pos e]
 ·simp only [if_neg e];rw [zR1 (a:=j) hj (fun l _ hne=>by unfold idF;rw [if_neg hne];grind)];unfold idF;rw [if_pos rfl];grind
theorem jE7 (k:Nat) (M:Nat->Nat->Rat) (h:∀ i,i<k->M i k=0):zC8 (k+1) M=zC8 k M*M k k:=by
  have hd:=zS1 (k+1)
  have hR:RowFn k k (fun L=>zC8 (k+1) (fun i j=>if i<k then (if j<k then L i j else 0) else M i j)):=by
    refine ⟨fun L L' hL=>hd.congr _ _ fun i j hi hj => ?_,fun L a c ha => ?_,fun L a b t ha hb hab => ?_⟩
    · by_cases e:i<k
      · by_cases e2:j<k
        · rw [if_pos e,if_pos e,if_pos e2,if_pos e2,hL i j e e2]
        · rw [if_pos e,if_pos e,if_neg e2,if_neg e2]
      · rw [if_neg e,if_neg e]
    · rw [<- hd.scale _ a c (by omega)];refine hd.congr _ _ fun i j hi hj => ?_;unfold zG0;by_cases e:i=a
      · subst e;simp only [if_pos ha,if_true];split<;>grind
      · simp only [if_neg e]
    · rw [<- hd.add (fun i j=>if i<k then (if j<k then L i j else 0) else M i j) a b t (by omega) (by omega) hab];refine hd.congr _ _ fun i j hi hj => ?_;unfold zL7;by_cases e:i=a
      · subst e;simp only [if_pos ha,if_pos hb,if_true];split<;>grind
      · simp only [if_neg e]
  have h1:=yI9 hR M
  have h2:zC8 (k+1) (fun i j=>if i<k then (if j<k then M i j else 0) else M i j)=zC8 (k+1) M:=hd.congr _ _ fun i j hi hj=>by
    by_cases e:i<k
    · by_cases e2:j<k
      · rw [if_pos e,if_pos e2]
      · obtain rfl:j=k:=by omega
        rw [if_pos e,if_neg e2,h i e]
    · rw [if_neg e]
  have key:∀ m,m<=k->zC8 (k+1) (fun i j=>if i<k then idF i j else if j<m then 0 else M k j)=zC8 (k+1) (fun i j=>if i<k then idF i j else M k j):=by
    intro m
    induction m with
    | zero=>intro _;exact hd.congr _ _ fun i j _ _=>by split<;>simp
    | succ m ih =>
      intro hm;rw [<- ih (by omega),<- hd.add (fun i j=>if i<k then idF i j else if j<m then 0 else M k j) k m (M k m) (by omega) (by omega) (by omega)];refine hd.congr _ _ fun i j hi hj => ?_;unfold zL7;by_cases e:i=k
      · subst e;simp only [if_neg (Nat.lt_irrefl i),if_true,if_pos (show m<i by omega)];unfold idF;by_cases e2:j<m
        · rw [if_pos (by omega),if_pos e2,if_neg (by omega)];grind
        · by_cases e3:j=m
          · subst e3;rw [if_pos (by omega),if_neg e2,if_pos rfl];grind
          · rw [if_neg (by omega),if_neg e2,if_neg (fun h=>e3 h.symm)];grind
      · simp only [if_neg e,if_pos (show i<k by omega)]
  have h3:zC8 (k+1) (fun i j=>if i<k then (if j<k then idF i j else 0) else M i j)=M k k:=by
    have e1:=key k (zB4 k);have e2:=hd.scale idF k (M k k) (by omega);rw [hd.congr _ (fun i j=>if i<k then idF i j else M k j) (fun i j hi hj => ?_),<- e1,hd.congr _ (zG0 idF k (M k k)) (fun i j hi hj => ?_),e2,qF8]
    · grind
    · unfold zG0 idF;by_cases e:i<k
      · rw [if_pos e,if_neg (show ¬ i=k by omega)]
      · obtain rfl:i=k:=by omega
        rw [if_neg e];by_cases e3:j<i
        · rw [if_pos e3,if_pos rfl,if_neg (by omega)];grind
        · obtain rfl:j=i:=by omega
          rw [if_neg e3,if_pos rfl,if_pos rfl];grind
    · by_cases e:i<k
      · rw [if_pos e,if_pos e];by_cases e2:j<k
        · rw [if_pos e2]
        · rw [if_neg e2];unfold idF;rw [if_neg (by omega)]
      · obtain rfl:i=k:=by omega
        rw [if_neg e,if_neg e]
  have h4:=h1;simp only [h2,h3] at h4;exact h4
def qF (a:Nat->Nat->Int):Nat->Nat->Rat:=fun i j=>(a i j:Rat)
theorem jE8 (n:Nat) (f:Nat->Rat) (h:∀ i,i<n -> ∃ z:Int,f i=(z:Rat)):∃ z:Int,zC5 n f=(z:Rat):=by
  induction n with
  | zero=>exact ⟨0,rfl⟩
  | succ n ih =>
    obtain ⟨x,hx⟩:=ih fun i hi=>h i (by omega);obtain ⟨y,hy⟩:=h n (by omega);exact ⟨x+y,by show zC5 n f+f n=_;rw [hx,hy,Rat.intCast_add]⟩
theorem qU2:∀ (n:Nat) (M:Nat->Nat->Rat),(∀ i j,i<n->j<n -> ∃ z:Int,M i j=(z:Rat)) -> ∃ z:Int,zC8 n M=(z:Rat)
  | 0,_,_=>⟨1,rfl⟩
  | n + 1, M, h => jE8 _ _ fun j hj => by
    obtain ⟨x,hx⟩:=h 0 j (by omega) hj;obtain ⟨y,hy⟩:=qU2 n (zL8 M j) fun i c hi hc=>h _ _ (by omega) (zZ0 hc)
    obtain ⟨s,hs⟩:∃ s:Int,sgN j=(s:Rat):=by
      unfold sgN
      split
      · exact ⟨1,rfl⟩
      · exact ⟨-1,rfl⟩
    exact ⟨s*x*y,by rw [hx,hy,hs,Rat.intCast_mul,Rat.intCast_mul]⟩
end Go.Proofs.YtagaabooccnamaaGreat.rat
namespace Go.Proofs.YtagaabooccnamaaGreat.rat
open Go.RowKit Go.Shelf num mem nat txt str flow whl
theorem yJ (n:Nat) (M:Nat->Nat->Rat):∀ a,a<=n -> ∃ (c:Rat) (E:Nat->Nat->Rat) (k:Nat) (p:Nat->Nat),Ech n a E k p/\Red n E k p 0/\(∀ f,RowFn n n f->f M=c*f E)/\c≠0/\zH2 n n M E
  | 0,_=>⟨1,M,0,id,Ech.zero n M id,fun m _ h=>by omega,fun f _=>by grind,by decide,zH2.refl _ _ _⟩
  | a + 1, ha => by
    obtain ⟨c,E,k,p,hE,hR,hf,hc,hK⟩:=yJ n M a (by omega);by_cases h0:∀ i,k<=i->i<n->E i a=0
    · exact ⟨c,E,k,p,hE.skip h0,hR,hf,hc,hK⟩
    · obtain ⟨i,hi,hin,hne⟩:∃ i,k<=i/\i<n/\E i a≠0:=Classical.byContradiction fun h=>h0 fun i h1 h2=>Classical.byContradiction fun h3=>h ⟨i,h1,h2,h3⟩
      obtain ⟨c1,E1,hE1,hR1,hf1,hc1,hne1,hK1⟩:∃ (c1:Rat) (E1:Nat->Nat->Rat),Ech n a E1 k p/\Red n E1 k p 0/\(∀ f,RowFn n n f->f M=c1*f E1)/\c1≠0/\E1 k a≠0/\zH2 n n M E1:=by
        by_cases e:k=i
        · subst e;exact ⟨c,E,hE,hR,hf,hc,hne,hK⟩
        · refine ⟨-c,zE9 E k i,hE.swap hi hin,hR.swap hi hin,fun f h => ?_,?_,?_,hK.trans (yE6 E (by omega) hin)⟩
          · rw [hf f h,h.swap E (by omega) hin e];grind
          · intro e2;apply hc;grind
          · unfold zE9;rw [if_pos rfl];exact hne
      have hk:k<n:=by omega
      have hi1:=Rat.mul_inv_cancel _ hne1
      have hine:(E1 k a)⁻¹ ≠ 0:=fun e=>by
        rw [e] at hi1
        revert hi1
        rw [Rat.mul_zero]
        decide
      have hE2:=hE1.scale (E1 k a)⁻¹;have h1:zG0 E1 k (E1 k a)⁻¹ k a=1:=by unfold zG0;rw [if_pos rfl];exact hi1
      have hE3:=hE2.clear (t:=fun i=>if i=k then 0 else zG0 E1 k (E1 k a)⁻¹ i a) hk h1 (if_pos rfl) (fun i hki _=>if_neg (by omega));have hR3:=Red.clear (t:=fun i=>if i=k then 0 else zG0 E1 k (E1 k a)⁻¹ i a) (hR1.scale (E1 k a)⁻¹) hE2 hk h1 (if_pos rfl) (fun i hki _=>if_neg hki);refine ⟨c1*E1 k a,_,_,_,hE3,hR3,fun f h => ?_,?_,hK1.trans ((yE7 E1 hine).trans (qR9 _ hk (if_pos rfl)))⟩
      · rw [h.clear _ hk (if_pos rfl),h.scale _ _ _ hk,hf1 f h]
        grind
      · intro e;rcases Rat.mul_eq_zero.1 e with h | h
        · exact hc1 h
        · exact hne1 h
theorem qG9 {k:Nat} {p:Nat->Nat} (hr:∀ i j,i<j->j<k->p i<p j):∀ n,(∀ j,j<n -> ∃ i,i<k/\p i=j)->n<=k /\ ∀ i,i<n->p i=i
  | 0,_=>⟨by omega,fun i h=>by omega⟩
  | n + 1, h => by
    obtain ⟨h1,h2⟩:=qG9 hr n fun j hj=>h j (by omega);obtain ⟨i,hi,e⟩:=h n (by omega)
    have hin:i=n:=by
      rcases Nat.lt_trichotomy i n with hl|hl|hl
      · have:=h2 i hl;omega
      · exact hl
      · have h3:=hr n i hl hi;rcases Nat.eq_zero_or_pos n with e0 | e0
        · omega
        · have h4:=hr (n-1) n (by omega) (by omega);have h5:=h2 (n-1) (by omega);omega
    subst hin;refine ⟨by omega,fun j hj => ?_⟩;by_cases e2:j<i
    · exact h2 j e2
    · obtain rfl:j=i:=by omega
      exact e
theorem qU3 {n:Nat} {f:Nat->Rat}:∀ C,n<=C->(∀ j,n<=j->j<C->f j=0)->zC5 C f=zC5 n f:=by
 intro C hC h;obtain ⟨m,rfl⟩:∃ m,C=n+m:=⟨C-n,by omega⟩;rw [qU1,zY9 (n:=m) fun i hi=>h (n+i) (by omega) (by omega),Rat.add_zero]
theorem yJ0 {n:Nat} {M:Nat->Nat->Rat} {x:Nat->Rat} {c:Nat} (hc:c<n) (hx:zW3 n n M x) (hne:x c≠0):zC8 n M=0:=by
 have h1:=zZ2 n M c x hc;have h2:=zZ2 n M c (fun _=>0) hc
 have e:zC8 n (zH8 M c (fun i=>zC5 n (fun l=>M i l*x l)))=zC8 n (zH8 M c (fun i=>zC5 n (fun l=>M i l*(fun _=>(0:Rat)) l))):=zK7 n fun i j hi hj=>by
  unfold zH8;by_cases e:j=c
  ·rw [if_pos e,if_pos e];show zC5 n (fun l=>M i l*x l)=zC5 n (fun l=>M i l*0)
   rw [hx i hi,zY9 fun l _=>by rw [Rat.mul_zero]]
  ·rw [if_neg e,if_neg e]
 rw [e,h2,Rat.zero_mul] at h1;rcases Rat.mul_eq_zero.1 h1.symm with h | h
 ·exact absurd h hne
 ·exact h
theorem yJ1 {n:Nat} {M:Nat->Nat->Rat} (h:∀ x,zW3 n n M x -> ∀ c,c<n->x c=0):zC8 n M≠0:=by
 obtain ⟨c,E,k,p,hE,hR,hf,hc,hK⟩:=yJ n M n (zB4 n)
 have hall:∀ j,j<n -> ∃ i,i<k/\p i=j:=fun j hj=>Classical.byContradiction fun hn=>by
  have h1:=yF hE hR hj (fun i hi e=>hn ⟨i,hi,e⟩);have h2:=h _ ((hK _).2 h1) j hj;rw [qS] at h2
  revert h2
  decide
 obtain ⟨hnk,_⟩:=qG9 hE.rise n hall;have hkn:k=n:=by have:=hE.le;omega
 rw [hf _ (zS1 n),(zS1 n).steps hE,if_pos hkn,qF8,Rat.mul_one];exact hc
theorem qU4 {n C k:Nat} {A T:Nat->Nat->Rat} {p:Nat->Nat} (hC:n<=C) (hE:Ech n C T k p) (hR:Red n T k p 0) (hK:zH2 n C A T):(∃ j,j<n /\ ∀ i,i<k->p i≠j)->zC8 n A=0:=by
 rintro ⟨j,hj,hf⟩;have h1:=(hK _).2 (yF hE hR (show j<C by omega) hf);refine yJ0 (x:=nv T k p j) hj (fun i hi => ?_) (by rw [qS];decide);have h2:=h1 i hi;rw [qU3 (n:=n) C hC (fun l h3 h4=>by rw [yY3 hE (show j<l by omega),Rat.mul_zero])] at h2;exact h2
theorem qU5 {n C k:Nat} {A T:Nat->Nat->Rat} {p:Nat->Nat} (hC:n<=C) (hE:Ech n C T k p) (hR:Red n T k p 0) (hK:zH2 n C A T) (h:∀ j,j<n -> ∃ i,i<k/\p i=j):k=n/\(∀ i,i<n->p i=i)/\(∀ i j,i<n->j<n->T i j=idF i j)/\zC8 n A≠0:=by
 obtain ⟨h1,h2⟩:=qG9 hE.rise n h;have hkn:k=n:=by have:=hE.le;omega
 have hT:∀ i j,i<n->j<n->T i j=idF i j:=fun i j hi hj=>by
  unfold idF;by_cases e:i=j
  ·subst e;rw [if_pos rfl]
   have:=hE.one i (by omega)
   rwa [h2 i hi] at this
  ·rw [if_neg e]
   have:=hR j (Nat.zero_le _) (by omega) i hi e
   rwa [h2 j hj] at this
 refine ⟨hkn,h2,hT,yJ1 fun x hx c hc => ?_⟩
 have h3:=(hK (fun l=>if l<n then x l else 0)).1 (fun i hi=>by
  rw [qU3 (n:=n) C hC (fun l h3 h4=>by simp only [if_neg (show ¬ l<n by omega)];rw [Rat.mul_zero])];have h4:=hx i hi;rw [<- h4];exact zH1 fun l hl=>by simp only [if_pos hl]) c hc
 rw [qU3 (n:=n) C hC (fun l h3 h4=>by simp only [if_neg (show ¬ l<n by omega)];rw [Rat.mul_zero]),zR1 (a:=c) hc (fun l hl hne=>by rw [hT c l hc hl];unfold idF;rw [if_neg (fun e=>hne e.symm),Rat.zero_mul]),hT c c hc hc] at h3;unfold idF at h3;rw [if_pos rfl,Rat.one_mul] at h3;simpa only [if_pos hc] using h3
structure SolQ (A B X:List (List Rat)):Prop where
 sh:shp X A.length (zD2 B)
 sol:∀ i j,i<A.length->j<zD2 B->zP9 A.length (zC0 A) (zC0 X) i j=zC0 B i j
theorem SolQ.one {A B X Y:List (List Rat)} (h:SolQ A B X) (k:SolQ A B Y) (hd:zC8 A.length (zC0 A)≠0):X=Y:=by
 refine yZ0 h.sh k.sh fun c j hc hj => ?_;have e1:=zZ2 A.length (zC0 A) c (fun l=>zC0 X l j) hc;have e2:=zZ2 A.length (zC0 A) c (fun l=>zC0 Y l j) hc
 have e:zC8 A.length (zH8 (zC0 A) c (fun i=>zC5 A.length (fun l=>zC0 A i l*(fun l=>zC0 X l j) l)))=zC8 A.length (zH8 (zC0 A) c (fun i=>zC5 A.length (fun l=>zC0 A i l*(fun l=>zC0 Y l j) l))):=zK7 _ fun i l hi hl=>by
  unfold zH8;by_cases e:l=c
  ·rw [if_pos e,if_pos e];exact (h.sol i j hi hj).trans (k.sol i j hi hj).symm
  ·rw [if_neg e,if_neg e]
 rw [e,e2] at e1;have h1:=Rat.mul_inv_cancel _ hd;have h3:zC0 X c j*zC8 A.length (zC0 A)*(zC8 A.length (zC0 A))⁻¹ = zC0 Y c j*zC8 A.length (zC0 A)*(zC8 A.length (zC0 A))⁻¹:=by rw [e1]
 rw [Rat.mul_assoc,Rat.mul_assoc,h1,Rat.mul_one,Rat.mul_one] at h3;exact h3
theorem qH {P Q:List (List Rat)} {i:Nat} {p q:List Rat} (hp:P[i]?=some p) (hq:Q[i]?=some q):(zD9 P Q)[i]?=some (p ++ q):=by
 unfold zD9;rw [List.getElem?_zipWith,hp,hq]
theorem zR3 {P Q:List (List Rat)} {n a b:Nat} (hp:shp P n a) (hq:shp Q n b):shp (zD9 P Q) n (a+b):=by
 refine ⟨by unfold zD9;rw [List.length_zipWith,hp.1,hq.1,Nat.min_self],fun r hr => ?_⟩;obtain ⟨i,hi⟩:=List.mem_iff_getElem?.1 hr;unfold zD9 at hi;rw [List.getElem?_zipWith_eq_some] at hi;obtain ⟨x,y,hx,hy,rfl⟩:=hi;rw [zA8,hp.2 x (zA5 hx),hq.2 y (zA5 hy)]
theorem qN0 {P Q:List (List Rat)} {n a b i j:Nat} (hp:shp P n a) (hq:shp Q n b) (hi:i<n):zC0 (zD9 P Q) i j=zO7 a (zC0 P) (zC0 Q) i j:=by
 obtain ⟨r,hr,hl⟩:=zH7 hp hi;obtain ⟨s,hs,hl2⟩:=zH7 hq hi;rw [zQ (qH hr hs)];unfold zO7;rw [zA6];by_cases h:j<a
 ·rw [if_pos h,zB0 (by omega),zQ hr,zA6]
 ·rw [if_neg h,List.getElem?_append_right (by omega),hl,zQ hs,zA6]
theorem yJ2 {P Q:List (List Rat)} {m:Nat} (h1:zH6 P 1) (h2:zH6 Q 1) (hl:∀ r∈zD9 P Q,r.length<=m):zG8 (zD9 P Q) (m+1):=by
 intro x hx;refine (qL8 (m:=1) fun y hy => ?_).mono (by have:=hl x hx;omega);obtain ⟨p,hp,q,hq,rfl⟩:=qM6 hx;rcases List.mem_append.1 hy with hy | hy
 ·exact h1 p hp y hy
 ·exact h2 q hq y hy
theorem yJ3 {A B T:List (List Rat)} {n m k:Nat} {p:Nat->Nat} (hA:shp A n n) (hB:shp B n m) (hm:zD2 B=m) (hT:shp T n (n+m)) (hE:Ech n (n+m) (zC0 T) k p) (hR:Red n (zC0 T) k p 0) (hK:zH2 n (n+m) (zC0 (zD9 A B)) (zC0 T)) (h:∀ j,j<n -> ∃ i,i<k/\p i=j):SolQ A B (T.map fun r=>r.drop n):=by
  obtain ⟨_,_,hI,_⟩:=qU5 (Nat.le_add_right n m) hE hR hK h;have hl:A.length=n:=hA.1
  have hent:∀ i c,i<n->zC0 (T.map fun r=>r.drop n) i c=zC0 T i (n+c):=fun i c hi=>by
    obtain ⟨r,hr,hrl⟩:=zH7 hT hi;have h1:(T.map fun r=>r.drop n)[i]?=some (r.drop n):=by rw [zB1,hr];rfl
    rw [zQ h1,zQ hr,zA6,List.getElem?_drop,zA6]
  have hk2:zH2 n (n+m) (zO7 n (zC0 A) (zC0 B)) (zO7 n idF (fun i c=>zC0 T i (n+c))):=by
    refine ((zZ fun i j hi hj=>(qN0 hA hB hi).symm).trans hK).trans (zZ fun i j hi hj => ?_);unfold zO7;by_cases h:j<n
    · rw [if_pos h];exact hI i j hi h
    · rw [if_neg h];show zC0 T i j=zC0 T i (n+(j-n))
      rw [show n+(j-n)=j by omega]
  refine ⟨⟨by rw [zA9,hT.1,hl],fun r hr => ?_⟩,fun i c hi hc => ?_⟩
  · obtain ⟨y,hy,rfl⟩:=List.mem_map.1 hr;rw [List.length_drop,hT.2 y hy,hm];omega
  · rw [hl] at hi |-;rw [hm] at hc
    have h1:=(hk2 (fun j=>if j<n then zC0 T j (n+c) else -(idF (j-n) c))).2 (fun i hi=>by
      rw [yI6 n m idF (fun i c=>zC0 T i (n+c)) (fun j=>zC0 T j (n+c)) (fun j => -(idF j c)),sum_idF hi (fun j=>zC0 T j (n+c)),yI7]
      have e:zC5 m (fun j=>zC0 T i (n+j)*idF j c)=zC0 T i (n+c):=by
        rw [zR1 hc (fun j _ hne=>by unfold idF;rw [if_neg hne,Rat.mul_zero])];unfold idF;rw [if_pos rfl,Rat.mul_one]
      rw [e]
      grind) i hi
    rw [yI6 n m (zC0 A) (zC0 B) (fun j=>zC0 T j (n+c)) (fun j => -(idF j c)),yI7] at h1
    have e:zC5 m (fun j=>zC0 B i j*idF j c)=zC0 B i c:=by
      rw [zR1 hc (fun j _ hne=>by unfold idF;rw [if_neg hne,Rat.mul_zero])];unfold idF;rw [if_pos rfl,Rat.mul_one]
    rw [e] at h1;unfold zP9;rw [zH1 (g:=fun l=>zC0 A i l*zC0 T l (n+c)) fun l hl=>by rw [hent l c hl]]
    grind
end Go.Proofs.YtagaabooccnamaaGreat.rat
namespace Go.Proofs.YtagaabooccnamaaGreat.rat
open Go.RowKit num mem nat txt str flow whl
def yJ4 (L:List Rat) (w:World) (e:Ending) (w':World):Prop:=∃ V,e=.returned V/\IsN .i64 10000 w' w.heap.size V L/\Below w.heap.size w w'
theorem jE9 (a0 a1:Value) (p:List Rat) (K:Rat) (w:World) (h0:SlF .i64 10000 w a0 p) (h1:IsP w a1 K) (hl:(zF3 p K).length<=p.length/\p.length<=1000000/\(∀ x∈p,zC6 x 10000)/\zC6 K 10000) :
  Calls prog 84 #[a0,a1] w (yJ4 (zF3 p K) w):=by
 obtain ⟨u1,t1,rfl,s1,r1⟩:=h1;obtain ⟨A1,c1,rfl,_⟩:=id s1;obtain ⟨D1,e1,rfl,_⟩:=id r1;have sl0:=h0;obtain ⟨A0,c0,rfl,hc0,hm0⟩:=h0.shape;unfold maxLen at hm0;have HLE:=hQ9 hl;clear hl
 go_enter func84,ntmps84
 go_upto_region 1 with (fail)
 obtain ⟨wx,hwx,bb,B1,hsz⟩:=zN4 w 65 #[.bool (ngB (K).num),.slice A1 (digs 10000 (K).num.natAbs).length c1,.slice D1 (digs 10000 (K).den).length e1];rw [hwx];clear hwx;have k1s:=s1.below bb;have k1d:=r1.below bb;have k1z:IsR wx (.agg #[.bool (ngB (K).num),.slice A1 (digs 10000 (K).num.natAbs).length c1]) (K).num:=⟨_,rfl,k1s⟩;have k1:IsP wx (.agg #[.bool (ngB (K).num),.slice A1 (digs 10000 (K).num.natAbs).length c1,.slice D1 (digs 10000 (K).den).length e1]) (K):=⟨_,_,rfl,k1s,k1d⟩;have hsz0:=bb.size;go_wp2
 go_loopw [5,6] (fun v5 v6 wr => ∃ (k:Nat) (ps:List Elt),k<=p.length/\Hid (ps.map (·.1)=(zF3 p K).take k)/\zD4 65 wr wx.heap.size v5 ps/\zH0 .i64 10000 wr v5 ps/\Hid (zI7 wx.heap.size ps)/\Below wx.heap.size wx wr/\v6=.int .i64 (k:Int)) (fun _ v6 _=>p.length-(intOf v6).toNat)
 case atStart=>exact ⟨0,[],by omega,rfl,qF4 _ _ _ (zB4 _),zH0.nil _ _ _ _,zI7.nil _,zD1 (zB4 _) _,rfl⟩
 case round =>
  obtain ⟨k,ps,hk,HP,hR,hF,HNL,hby,rfl⟩:=hrel;have bw:=bb.trans (hby.mono bb.size);clear bb;have bb:=bw;clear bw;replace B1:=B1.below hby;replace k1s:=k1s.below hby;replace k1d:=k1d.below hby;replace k1z:=k1z.below hby;replace k1:=k1.below hby;have hszr:=bb.size;by_cases hlt:k<p.length
  ·obtain ⟨x,hq0_⟩:∃ x,p[k]?=some x:=⟨_,zA3 hlt⟩;obtain ⟨g0_,o0_,ue0,te0,hA0_,_,e00,e01,e02,es0,ed0⟩:=(sl0.below bb).at_ hq0_;subst hA0_;have HQ0:=hQ9 hq0_;clear hq0_;obtain ⟨Ae0,ce0,rfl,_⟩:=id es0;obtain ⟨De0,ee0,rfl,_⟩:=id ed0;have ke0:IsP wr (.agg #[.bool (ngB x.num),.slice Ae0 (digs 10000 x.num.natAbs).length ce0,.slice De0 (digs 10000 x.den).length ee0]) x:=⟨_,_,rfl,es0,ed0⟩;have lx:zC6 x 10000:=HLE.out.2.2.1 x (zA5 HQ0.out);have lK:zC6 K 10000:=HLE.out.2.2.2;have nR:=hR.under;obtain ⟨AR,cR,hAR,_⟩:=(hR.sl hF).shape;subst hAR;have hszy:=hby.size
   have HL8:Hid (ps.length<=1000000000):=by
    have h1:=congrArg List.length HP.out;rw [zA9,zB2] at h1;show _<=_
    have:=HLE.out.1
    have:=HLE.out.2.1
    omega
   have sB:=bb.size;go_upto_region 5 with (fail);refine flow 8 [Pd.eq (.slice AR (ps.map (·.1)).length cR),Pd.eq (.slice (some ⟨g0_,o0_,none⟩) p.length c0),Pd.eq (.int .i64 (k:Int)),Pd.eq (.pointer (some ⟨g0_,o0_+k*3,none⟩)),Pd.eq (.agg #[.bool (ngB x.num),.slice Ae0 (digs 10000 x.num.natAbs).length ce0,.slice De0 (digs 10000 x.den).length ee0]),Pd.eq (.agg #[.bool (ngB (K).num),.slice A1 (digs 10000 (K).num.natAbs).length c1,.slice D1 (digs 10000 (K).den).length e1]),ppf ((x*K)) wr.heap.size,pone (ppf (x*K) wr.heap.size)] (by kernel_rfl) (by kernel_rfl) ?ob1 ?done1
   case ob1 =>
    refine zA (zC2 rfl (zB7 rfl) (zB9 rfl rfl) (fun _ _ h=>h)) ?_;refine zA (zC2 rfl (zB7 rfl) (zB9 rfl rfl) (fun _ _ h=>h)) ?_;refine zA (zC2 rfl (zB7 rfl) (zB9 rfl rfl) (fun _ _ h=>h)) ?_;refine zA (zI0 rfl (zB7 rfl) (zB8 (j:=1) (by kernel_rfl) rfl rfl) (zB8 (j:=2) (by kernel_rfl) rfl rfl) (fun _ _ _ hx hy=>⟨_,by rw [hx,hy];exact zI9 underlying45 (by kernel_rfl) hlt _,rfl⟩)) ?_;refine zA (zC rfl (zB7 rfl) (zB8 (j:=3) (by kernel_rfl) rfl rfl) (fun w2 hb=>zO4 underlying65 rfl (by kernel_rfl) ((hb.cell (World.block_lt_of_cell? wr _ e00)).trans e00) ((hb.cell (World.block_lt_of_cell? wr _ e01)).trans e01) ((hb.cell (World.block_lt_of_cell? wr _ e02)).trans e02)) (fun _ _=>rfl)) ?_;refine zA (zC rfl (zB7 rfl) (zB9 rfl rfl) (fun w2 hb=>zF7 underlying65 rfl (by kernel_rfl) (B1.drew.below hb)) (fun _ _=>rfl)) ?_;refine zA (zD0 rfl func62 (by kernel_rfl) (zB7 rfl) (zB8 (j:=4) (by kernel_rfl) rfl rfl) (zB8 (j:=5) (by kernel_rfl) rfl rfl) (fun w2 u0 u1 hb h0 h1=>by obtain rfl:=h0;obtain rfl:=h1;exact (yD1 _ x _ K _ (ke0.drew.below hb) (k1.drew.below hb) lx lK).mono fun e w3 h=>zO1.pdf h hb.size)) ?_;refine zA (qS9 (φ:=ppf (x*K) wr.heap.size) rfl rfl (zB8 (j:=6) (by kernel_rfl) rfl rfl) underlying45 zY7 (fun w v h=>⟨h,by obtain ⟨⟨u,t,rfl,hu,ht⟩,_⟩:=h;obtain ⟨_,_,rfl,_⟩:=id hu;obtain ⟨_,_,rfl,_⟩:=id ht;exact ⟨_,_,_,rfl,rfl,rfl,rfl⟩⟩) (fun _ _ h=>h)) ?_
    trivial
   case done1 =>
    refine fun w2 hb2 v0 h0 v1 h1 v2 h2 v3 h3 v4 h4 v5 h5 v6 h6 v7 h7 b hbf => ?_;obtain rfl:=h0;obtain rfl:=h1;obtain rfl:=h2;obtain rfl:=h3;obtain rfl:=h4;obtain rfl:=h5;obtain ⟨q6,f6⟩:=h6;obtain ⟨g7_,x7,y7,z7,rfl,c70,c71,c72,K7⟩:=h7;simp only [Act.put,zA0,zA2,zA1] at hbf;subst hbf;replace B1:=B1.below hb2;replace k1s:=k1s.below hb2;replace k1d:=k1d.below hb2;replace k1z:=k1z.below hb2;replace k1:=k1.below hb2;replace hR:=hR.below hb2;replace hF:=hF.below hb2;replace bb:=bb.trans (hb2.mono bb.size);have hsz2:=bb.size;replace hby:=hby.trans (hb2.mono hby.size);have s_6:=sB;have hszB:=hby.size;obtain ⟨⟨uE,tE,eE,sE,dE⟩,fE⟩:=K7;obtain ⟨rfl,rfl,rfl⟩:x7=.bool (ngB (x*K).num)/\y7=uE/\z7=tE:=by injection eE with eE;simpa using eE
    clear eE;obtain ⟨AE,cE,rfl,_⟩:=id sE;obtain ⟨DE,rE,rfl,_⟩:=id dE;refine yF5 (i:=8) (.tmp 14) (.tmp 21) (by kernel_rfl) rfl rfl rfl underlying45 zY7 (p:=(x*K,.slice AE (digs 10000 (x*K).num.natAbs).length cE,.slice DE (digs 10000 (x*K).den).length rE)) (ps:=ps) rfl hR rfl c70 c71 c72 rfl rfl HL8.out hszB fun v8 w8 b8 row8 bb8 HK8 hb8 => ?_;simp only [Act.put,zA0,zA2,zA1] at hb8;subst hb8;have EC:IsE .i64 10000 w2 ((x*K,.slice AE (digs 10000 (x*K).num.natAbs).length cE,.slice DE (digs 10000 (x*K).den).length rE):Elt):=⟨sE,dE⟩;have HN8:Hid (zI7 wx.heap.size (ps ++ [((x*K,.slice AE (digs 10000 (x*K).num.natAbs).length cE,.slice DE (digs 10000 (x*K).den).length rE):Elt)])):=HNL.out.snoc (p:=((x*K,.slice AE (digs 10000 (x*K).num.natAbs).length cE,.slice DE (digs 10000 (x*K).den).length rE):Elt)) ((fE _ _ _ rfl).1.mono hszy) ((fE _ _ _ rfl).2.mono hszy);have F8:=hF.snoc HK8.out.1 EC ((fE _ _ _ rfl).1.far nR) ((fE _ _ _ rfl).2.far nR);clear HK8 EC fE;refine qE0 (i:=9) (v8) (by kernel_rfl) rfl rfl rfl rfl rfl fun b hbf => ?_;simp only [Act.put,zA0,zA2,zA1] at hbf;subst hbf;refine zF8 (by kernel_rfl) ?_
    have HP8:Hid ((ps ++ [((x*K,.slice AE (digs 10000 (x*K).num.natAbs).length cE,.slice DE (digs 10000 (x*K).den).length rE):Elt)]).map (·.1)=(zF3 p K).take (k+1)):=by
     show _=_
     rw [List.map_append,HP.out,zU3 (show (zF3 p K)[k]?=some (x*K) from by rw [zF3,zB1,HQ0.out];rfl)]
     rfl
    have b8:=hby.trans bb8;clear hR hF HP HNL;go_wp2;go_roundw;case rel=>exact ⟨k+1,_,by omega,HP8,row8,F8,HN8,b8,by go_num⟩
    case measure=>simp [intOf];omega
  ·have HPE:Hid (IsN .i64 10000 wr w.heap.size u5 (zF3 p K)):=by
    have h:=HP.out;rw [zA7 (by have:=HLE.out.1;omega)] at h;exact ⟨ps,h,hR.isVF,fun p hp=>⟨(hF p hp).1,(HNL.out p hp).1.mono hsz0,(HNL.out p hp).2.mono hsz0⟩,fun g hg=>⟨zB5 hsz0 (hR.base_le g hg),hR.under g hg⟩⟩
   clear hR hF HP HNL;go_wp2;go_ret;exact ⟨_,rfl,HPE.out,bb⟩
theorem jF (a0 a1 a2:Value) (p:List Rat) (K:Rat) (q:List Rat) (w:World) (h0:SlF .i64 10000 w a0 p) (h1:IsP w a1 K) (h2:SlF .i64 10000 w a2 q) (he:p.length=q.length) (hl:(zG4 p K q).length<=p.length/\p.length<=1000000/\(∀ x∈p,zC6 x 2000)/\(∀ x∈q,zC6 x 2000)/\zC6 K 2000) :
  Calls prog 86 #[a0,a1,a2] w (yJ4 (zG4 p K q) w):=by
 obtain ⟨u1,t1,rfl,s1,r1⟩:=h1;obtain ⟨A1,c1,rfl,_⟩:=id s1;obtain ⟨D1,e1,rfl,_⟩:=id r1;have sl0:=h0;obtain ⟨A0,c0,rfl,hc0,hm0⟩:=h0.shape;unfold maxLen at hm0;have sl2:=h2;obtain ⟨A2,c2,rfl,hc2,hm2⟩:=h2.shape;unfold maxLen at hm2;have HLE:=hQ9 hl;clear hl;have HE:=hQ9 he;clear he
 go_enter func86,ntmps86
 go_upto_region 1 with (fail)
 obtain ⟨wx,hwx,bb,B1,hsz⟩:=zN4 w 65 #[.bool (ngB (K).num),.slice A1 (digs 10000 (K).num.natAbs).length c1,.slice D1 (digs 10000 (K).den).length e1];rw [hwx];clear hwx;have k1s:=s1.below bb;have k1d:=r1.below bb;have k1z:IsR wx (.agg #[.bool (ngB (K).num),.slice A1 (digs 10000 (K).num.natAbs).length c1]) (K).num:=⟨_,rfl,k1s⟩;have k1:IsP wx (.agg #[.bool (ngB (K).num),.slice A1 (digs 10000 (K).num.natAbs).length c1,.slice D1 (digs 10000 (K).den).length e1]) (K):=⟨_,_,rfl,k1s,k1d⟩;have hsz0:=bb.size;go_wp2
 go_loopw [7,8] (fun v7 v8 wr => ∃ (k:Nat) (ps:List Elt),k<=p.length/\Hid (ps.map (·.1)=(zG4 p K q).take k)/\zD4 65 wr wx.heap.size v7 ps/\zH0 .i64 10000 wr v7 ps/\Hid (zI7 wx.heap.size ps)/\Below wx.heap.size wx wr/\v8=.int .i64 (k:Int)) (fun _ v8 _=>p.length-(intOf v8).toNat)
 case atStart=>exact ⟨0,[],by omega,rfl,qF4 _ _ _ (zB4 _),zH0.nil _ _ _ _,zI7.nil _,zD1 (zB4 _) _,rfl⟩
 case round =>
  obtain ⟨k,ps,hk,HP,hR,hF,HNL,hby,rfl⟩:=hrel;have bw:=bb.trans (hby.mono bb.size);clear bb;have bb:=bw;clear bw;replace B1:=B1.below hby;replace k1s:=k1s.below hby;replace k1d:=k1d.below hby;replace k1z:=k1z.below hby;replace k1:=k1.below hby;have hszr:=bb.size;by_cases hlt:k<p.length
  ·obtain ⟨x,hq0_⟩:∃ x,p[k]?=some x:=⟨_,zA3 hlt⟩;obtain ⟨g0_,o0_,ue0,te0,hA0_,_,e00,e01,e02,es0,ed0⟩:=(sl0.below bb).at_ hq0_;subst hA0_;have HQ0:=hQ9 hq0_;clear hq0_;obtain ⟨Ae0,ce0,rfl,_⟩:=id es0;obtain ⟨De0,ee0,rfl,_⟩:=id ed0;have ke0:IsP wr (.agg #[.bool (ngB x.num),.slice Ae0 (digs 10000 x.num.natAbs).length ce0,.slice De0 (digs 10000 x.den).length ee0]) x:=⟨_,_,rfl,es0,ed0⟩;have hlt2:k<q.length:=by have:=HE.out;omega
   obtain ⟨y,hq2_⟩:∃ y,q[k]?=some y:=⟨_,zA3 hlt2⟩;obtain ⟨g2_,o2_,ue2,te2,hA2_,_,e20,e21,e22,es2,ed2⟩:=(sl2.below bb).at_ hq2_;subst hA2_;have HQ2:=hQ9 hq2_;clear hq2_;obtain ⟨Ae2,ce2,rfl,_⟩:=id es2;obtain ⟨De2,ee2,rfl,_⟩:=id ed2;have ke2:IsP wr (.agg #[.bool (ngB y.num),.slice Ae2 (digs 10000 y.num.natAbs).length ce2,.slice De2 (digs 10000 y.den).length ee2]) y:=⟨_,_,rfl,es2,ed2⟩;have lx:zC6 x 2000:=HLE.out.2.2.1 x (zA5 HQ0.out);have ly:zC6 y 2000:=HLE.out.2.2.2.1 y (zA5 HQ2.out);have lK:zC6 K 2000:=HLE.out.2.2.2.2;have lKy:zC6 (K*y) 5000:=(qQ5 lK ly).mono (by decide);have nR:=hR.under;obtain ⟨AR,cR,hAR,_⟩:=(hR.sl hF).shape;subst hAR;have hszy:=hby.size
   have HL8:Hid (ps.length<=1000000000):=by
    have h1:=congrArg List.length HP.out;rw [zA9,zB2] at h1;show _<=_
    have:=HLE.out.1
    have:=HLE.out.2.1
    omega
   have sB:=bb.size;go_upto_region 5 with (fail);refine flow 13 [Pd.eq (.slice AR (ps.map (·.1)).length cR),Pd.eq (.slice (some ⟨g0_,o0_,none⟩) p.length c0),Pd.eq (.int .i64 (k:Int)),Pd.eq (.pointer (some ⟨g0_,o0_+k*3,none⟩)),Pd.eq (.agg #[.bool (ngB x.num),.slice Ae0 (digs 10000 x.num.natAbs).length ce0,.slice De0 (digs 10000 x.den).length ee0]),Pd.eq (.agg #[.bool (ngB (K).num),.slice A1 (digs 10000 (K).num.natAbs).length c1,.slice D1 (digs 10000 (K).den).length e1]),Pd.eq (.slice (some ⟨g2_,o2_,none⟩) q.length c2),Pd.eq (.int .i64 (k:Int)),Pd.eq (.pointer (some ⟨g2_,o2_+k*3,none⟩)),Pd.eq (.agg #[.bool (ngB y.num),.slice Ae2 (digs 10000 y.num.natAbs).length ce2,.slice De2 (digs 10000 y.den).length ee2]),pp ((K*y)),ppf ((x-K*y)) wr.heap.size,pone (ppf (x-K*y) wr.heap.size)] (by kernel_rfl) (by kernel_rfl) ?ob2 ?done2
   case ob2 =>
    refine zA (zC2 rfl (zB7 rfl) (zB9 rfl rfl) (fun _ _ h=>h)) ?_;refine zA (zC2 rfl (zB7 rfl) (zB9 rfl rfl) (fun _ _ h=>h)) ?_;refine zA (zC2 rfl (zB7 rfl) (zB9 rfl rfl) (fun _ _ h=>h)) ?_;refine zA (zI0 rfl (zB7 rfl) (zB8 (j:=1) (by kernel_rfl) rfl rfl) (zB8 (j:=2) (by kernel_rfl) rfl rfl) (fun _ _ _ hx hy=>⟨_,by rw [hx,hy];exact zI9 underlying45 (by kernel_rfl) hlt _,rfl⟩)) ?_;refine zA (zC rfl (zB7 rfl) (zB8 (j:=3) (by kernel_rfl) rfl rfl) (fun w2 hb=>zO4 underlying65 rfl (by kernel_rfl) ((hb.cell (World.block_lt_of_cell? wr _ e00)).trans e00) ((hb.cell (World.block_lt_of_cell? wr _ e01)).trans e01) ((hb.cell (World.block_lt_of_cell? wr _ e02)).trans e02)) (fun _ _=>rfl)) ?_;refine zA (zC rfl (zB7 rfl) (zB9 rfl rfl) (fun w2 hb=>zF7 underlying65 rfl (by kernel_rfl) (B1.drew.below hb)) (fun _ _=>rfl)) ?_;refine zA (zC2 rfl (zB7 rfl) (zB9 rfl rfl) (fun _ _ h=>h)) ?_;refine zA (zC2 rfl (zB7 rfl) (zB9 rfl rfl) (fun _ _ h=>h)) ?_;refine zA (zI0 rfl (zB7 rfl) (zB8 (j:=6) (by kernel_rfl) rfl rfl) (zB8 (j:=7) (by kernel_rfl) rfl rfl) (fun _ _ _ hx hy=>⟨_,by rw [hx,hy];exact zI9 underlying45 (by kernel_rfl) hlt2 _,rfl⟩)) ?_;refine zA (zC rfl (zB7 rfl) (zB8 (j:=8) (by kernel_rfl) rfl rfl) (fun w2 hb=>zO4 underlying65 rfl (by kernel_rfl) ((hb.cell (World.block_lt_of_cell? wr _ e20)).trans e20) ((hb.cell (World.block_lt_of_cell? wr _ e21)).trans e21) ((hb.cell (World.block_lt_of_cell? wr _ e22)).trans e22)) (fun _ _=>rfl)) ?_;refine zA (zD0 rfl func62 (by kernel_rfl) (zB7 rfl) (zB8 (j:=5) (by kernel_rfl) rfl rfl) (zB8 (j:=9) (by kernel_rfl) rfl rfl) (fun w2 u0 u1 hb h0 h1=>by obtain rfl:=h0;obtain rfl:=h1;exact (yD1 _ K _ y _ (k1.drew.below hb) (ke2.drew.below hb) (lK.mono (by decide)) (ly.mono (by decide))).mono fun e w3 h=>zO1.pd h)) ?_;refine zA (zD0 rfl func124 (by kernel_rfl) (zB7 rfl) (zB8 (j:=4) (by kernel_rfl) rfl rfl) (zB8 (j:=10) (by kernel_rfl) rfl rfl) (fun w2 u0 u1 hb h0 h1=>by obtain rfl:=h0;exact (yW6 _ x _ (K*y) _ (ke0.drew.below hb) h1 (lx.mono (by decide)) lKy).mono fun e w3 h=>zO1.pdf h hb.size)) ?_;refine zA (qS9 (φ:=ppf (x-K*y) wr.heap.size) rfl rfl (zB8 (j:=11) (by kernel_rfl) rfl rfl) underlying45 zY7 (fun w v h=>⟨h,by obtain ⟨⟨u,t,rfl,hu,ht⟩,_⟩:=h;obtain ⟨_,_,rfl,_⟩:=id hu;obtain ⟨_,_,rfl,_⟩:=id ht;exact ⟨_,_,_,rfl,rfl,rfl,rfl⟩⟩) (fun _ _ h=>h)) ?_
    trivial
   case done2 =>
    refine fun w2 hb2 v0 h0 v1 h1 v2 h2 v3 h3 v4 h4 v5 h5 v6 h6 v7 h7 v8 h8 v9 h9 v10 h10 v11 h11 v12 h12 b hbf => ?_;obtain rfl:=h0;obtain rfl:=h1;obtain rfl:=h2;obtain rfl:=h3;obtain rfl:=h4;obtain rfl:=h5;obtain rfl:=h6;obtain rfl:=h7;obtain rfl:=h8;obtain rfl:=h9;have q10:=h10;obtain ⟨q11,f11⟩:=h11;obtain ⟨g12_,x12,y12,z12,rfl,c120,c121,c122,K12⟩:=h12;simp only [Act.put,zA0,zA2,zA1] at hbf;subst hbf;replace B1:=B1.below hb2;replace k1s:=k1s.below hb2;replace k1d:=k1d.below hb2;replace k1z:=k1z.below hb2;replace k1:=k1.below hb2;replace hR:=hR.below hb2;replace hF:=hF.below hb2;replace bb:=bb.trans (hb2.mono bb.size);have hsz2:=bb.size;replace hby:=hby.trans (hb2.mono hby.size);have s_11:=sB;have hszB:=hby.size;obtain ⟨⟨uE,tE,eE,sE,dE⟩,fE⟩:=K12;obtain ⟨rfl,rfl,rfl⟩:x12=.bool (ngB (x-K*y).num)/\y12=uE/\z12=tE:=by injection eE with eE;simpa using eE
    clear eE;obtain ⟨AE,cE,rfl,_⟩:=id sE;obtain ⟨DE,rE,rfl,_⟩:=id dE;refine yF5 (i:=13) (.tmp 22) (.tmp 34) (by kernel_rfl) rfl rfl rfl underlying45 zY7 (p:=(x-K*y,.slice AE (digs 10000 (x-K*y).num.natAbs).length cE,.slice DE (digs 10000 (x-K*y).den).length rE)) (ps:=ps) rfl hR rfl c120 c121 c122 rfl rfl HL8.out hszB fun v8 w8 b8 row8 bb8 HK8 hb8 => ?_;simp only [Act.put,zA0,zA2,zA1] at hb8;subst hb8;have EC:IsE .i64 10000 w2 ((x-K*y,.slice AE (digs 10000 (x-K*y).num.natAbs).length cE,.slice DE (digs 10000 (x-K*y).den).length rE):Elt):=⟨sE,dE⟩;have HN8:Hid (zI7 wx.heap.size (ps ++ [((x-K*y,.slice AE (digs 10000 (x-K*y).num.natAbs).length cE,.slice DE (digs 10000 (x-K*y).den).length rE):Elt)])):=HNL.out.snoc (p:=((x-K*y,.slice AE (digs 10000 (x-K*y).num.natAbs).length cE,.slice DE (digs 10000 (x-K*y).den).length rE):Elt)) ((fE _ _ _ rfl).1.mono hszy) ((fE _ _ _ rfl).2.mono hszy);have F8:=hF.snoc HK8.out.1 EC ((fE _ _ _ rfl).1.far nR) ((fE _ _ _ rfl).2.far nR);clear HK8 EC fE;refine qE0 (i:=14) (v8) (by kernel_rfl) rfl rfl rfl rfl rfl fun b hbf => ?_;simp only [Act.put,zA0,zA2,zA1] at hbf;subst hbf;refine zF8 (by kernel_rfl) ?_
    have HP8:Hid ((ps ++ [((x-K*y,.slice AE (digs 10000 (x-K*y).num.natAbs).length cE,.slice DE (digs 10000 (x-K*y).den).length rE):Elt)]).map (·.1)=(zG4 p K q).take (k+1)):=by
     show _=_
     rw [List.map_append,HP.out,zU3 (show (zG4 p K q)[k]?=some (x-K*y) from yE0 (f:=fun x y=>x-K*y) HQ0.out HQ2.out)]
     rfl
    have b8:=hby.trans bb8;clear hR hF HP HNL;go_wp2;go_roundw;case rel=>exact ⟨k+1,_,by omega,HP8,row8,F8,HN8,b8,by go_num⟩
    case measure=>simp [intOf];omega
  ·have HPE:Hid (IsN .i64 10000 wr w.heap.size u7 (zG4 p K q)):=by
    have h:=HP.out;rw [zA7 (by have:=HLE.out.1;omega)] at h;exact ⟨ps,h,hR.isVF,fun p hp=>⟨(hF p hp).1,(HNL.out p hp).1.mono hsz0,(HNL.out p hp).2.mono hsz0⟩,fun g hg=>⟨zB5 hsz0 (hR.base_le g hg),hR.under g hg⟩⟩
   clear hR hF HP HNL;go_wp2;go_ret;exact ⟨_,rfl,HPE.out,bb⟩
end Go.Proofs.YtagaabooccnamaaGreat.rat
namespace Go.Proofs.YtagaabooccnamaaGreat.rat
open Go.RowKit Go.Shelf num mem nat txt str flow whl
def zI4 (v:Value):Prop:=∃ A n c,v=.slice A n c
section
variable {P:Program}
theorem jF0 {w:World} {base:Nat} {t ty e:TypeId} (hT:P.underlying t=some (.slice e)) (hI:∃ i,P.info? e=some i/\i.zero=some (.slice none 0 0)/\i.size=1/\i.bytes=24) {v:Value} {vs news:List Value} (hown:zE zI4 w base e v vs) {ad:Addr} {m c:Nat} (hm:m=news.length) (hm0:0<m)
  (hr:∀ (i:Nat) (u:Value),news[i]?=some u->w.cell? (ad.add i)=some u) (h1:∀ u∈news,zI4 u) (hlen:vs.length+m<=1000000000) (hbase:base<=w.heap.size) :
  ∃ v' w',(Builtin.append_ #[t,t] ty #[v,.slice (some ad) m c]).run P w=.ok v' w'/\zE zI4 w' base e v' (vs ++ news)/\w.grownBy w' v.ownBlock/\(v'.ownBlock=v.ownBlock\/v'.ownBlock=some w.heap.size):=by
 obtain ⟨i,hi,hz,hs,hby⟩:=hI;subst hm;have one:∀ u∈news,u.oneCell'=true:=fun u hu=>by obtain ⟨A_,n_,c_,rfl⟩:=h1 u hu;rfl
 have hl:news.length=news.length*i.size:=by rw [hs,Nat.mul_one]
 have zs:∀ n,∀ c∈Builtin.zeroCells (Value.slice none 0 0).cells n,zI4 c:=by
  intro n c hc
  have:c=.slice none 0 0:=by
   have h0:∀ n,∀ c∈(Builtin.zeroCells (Value.slice none 0 0).cells n),c=.slice none 0 0:=by
    intro n c hc;unfold Builtin.zeroCells at hc;simp [Value.cells,Nat.mod_one] at hc;obtain ⟨_,h3⟩:=hc
    first | exact h3.symm | exact h3.2.symm
   exact h0 n c hc
  exact ⟨none,0,0,this⟩
 obtain ⟨v',w',g1,g2,g3,_,g5⟩:=run_append_own_at (P:=P) w base t ty e i (.slice none 0 0) 1 24 hT hi hz hs hby rfl (by decide) v vs.length vs hown.1 ad news.length c news (by simp) (fun j u hu=>hr j u hu) one (by unfold maxLen;omega) (by omega) hbase;refine ⟨v',w',g1,⟨by unfold zD6;rw [zA8];exact g2,fun g hg => ?_⟩,g3,g5⟩;rcases hown.1.2 with ⟨rfl,h0⟩|⟨g',cap,cur,rfl,hbg,hgg,hnc,hcm,hcs,htake⟩
 ·have hx:vs=[]:=List.eq_nil_of_length_eq_zero h0;subst hx;have hr2:=run_append_nil (P:=P) w t ty e i (.slice none 0 0) hT hi hz ad news.length c news hl hr hm0 (by omega) (by rw [hby];simp at hlen;omega);rw [hr2] at g1;injection g1 with g1 g1';subst g1;subst g1';obtain rfl:w.heap.size=g:=by simpa [Value.ownBlock] using hg
  refine ⟨_,heap_alloc_new w.drew _,fun c hc => ?_⟩;rcases Array.mem_append.1 hc with hc | hc
  ·exact h1 c (by simpa using hc)
  ·exact zs _ c hc
 ·obtain ⟨cs,hcs1,hcs2⟩:=hown.2 g' rfl;rw [hgg] at hcs1;injection hcs1 with hcs1;injection hcs1 with hcs1 _ _;subst hcs1;by_cases hroom:vs.length+news.length<=cap
  ·have hfit:vs.length*i.size+news.length<=cur.size:=by rw [hcs,hs];omega
   have hr2:=run_append_room (P:=P) w t ty e i hT hi g' vs.length cap cur hgg ad news.length c news hl hr one hroom hfit;rw [hr2] at g1;injection g1 with g1 g1';subst g1;subst g1';obtain rfl:g'=g:=by simpa [Value.ownBlock] using hg
   refine ⟨_,setRow_heap w g' cur _ e _ hgg,fun c hc => ?_⟩;have hc2:c∈cur.toList.take (vs.length*i.size) ++ news ++ cur.toList.drop (vs.length*i.size+news.length):=by simpa using hc
   rcases List.mem_append.1 hc2 with hc2 | hc2
   ·rcases List.mem_append.1 hc2 with hc2 | hc2
    ·exact hcs2 c (by simpa using List.mem_of_mem_take hc2)
    ·exact h1 c hc2
   ·exact hcs2 c (by simpa using List.mem_of_mem_drop hc2)
  ·have holds:∀ j u,vs[j]?=some u->w.cell? ((⟨g',0,none⟩:Addr).add j)=some u:=World.ownsRow.cells hown.1 (g:=g') rfl;have hr2:=run_append_grow (P:=P) w t ty e i (.slice none 0 0) hT hi hz ⟨g',0,none⟩ vs.length cap vs (by rw [hs];omega) holds ad news.length c news hl hr (by omega) (by omega) (growslice_fits (by omega) (by rw [hby];omega));rw [hr2] at g1;injection g1 with g1 g1';subst g1;subst g1';obtain rfl:w.heap.size=g:=by simpa [Value.ownBlock] using hg
   refine ⟨_,heap_alloc_new w.drew _,fun c hc => ?_⟩;rcases Array.mem_append.1 hc with hc | hc
   ·rcases Array.mem_append.1 hc with hc | hc
    ·have hcv:c∈vs:=by simpa using hc
     rw [<- htake] at hcv;exact hcs2 c (by simpa using List.mem_of_mem_take hcv)
    ·exact h1 c (by simpa using hc)
   ·exact zs _ c hc
theorem yJ5 {w:World} {o:Oper} {a:Act} {K:Act->World->Prop} {Q:Exit->Act->World->Prop} (s x:Operand) {t:TypeId}
  (ho:o.op=.call { callee:=.builtin .append,args:=#[s,x],argTypes:=#[t,t] })
  {base:Nat} {e:TypeId} (hT:P.underlying t=some (.slice e)) (hI:∃ i,P.info? e=some i/\i.zero=some (.slice none 0 0)/\i.size=1/\i.bytes=24) {v:Value} {vs news:List Value} (hs:a.eval s=v) (hown:zE zI4 w base e v vs) {ad:Addr} {m c:Nat} (hx:a.eval x=.slice (some ad) m c) (hm:m=news.length) (hm0:0<m)
  (hr:∀ (i:Nat) (u:Value),news[i]?=some u->w.cell? (ad.add i)=some u) (h1:∀ u∈news,zI4 u) (hlen:vs.length+m<=1000000000) (hbase:base<=w.heap.size)
  (h:∀ v' w',zE zI4 w' base e v' (vs ++ news)->Hid (w.grownBy w' v.ownBlock)->Hid (v'.ownBlock=v.ownBlock\/v'.ownBlock=some w.heap.size)->K (a.put o.dst v') w'):o.wp P a w K Q:=by
 obtain ⟨v',w',hrun,h2,h3,h4⟩:=jF0 (P:=P) (ty:=o.type) hT hI hown (c:=c) hm hm0 hr h1 hlen hbase;unfold Oper.wp execOp;simp only [ho,resolve,invoke,builtin,Sem.run_bind,Sem.run_pure,Result.andThen_ok,List.map_toArray,List.map_cons,List.map_nil,hs,hx,hrun];exact h v' w' h2 h3 h4
theorem yJ6 {w:World} {ops:Array Oper} {rest:List Oper} {o:Oper} {a:Act} {Q:Exit->Act->World->Prop} (hgd:o.guard=none) (s x:Operand) {t:TypeId}
  (ho:o.op=.call { callee:=.builtin .append,args:=#[s,x],argTypes:=#[t,t] })
  {base:Nat} {e:TypeId} (hT:P.underlying t=some (.slice e)) (hI:∃ i,P.info? e=some i/\i.zero=some (.slice none 0 0)/\i.size=1/\i.bytes=24) {v:Value} {vs news:List Value} (hs:a.eval s=v) (hown:zE zI4 w base e v vs) {ad:Addr} {m c:Nat} (hx:a.eval x=.slice (some ad) m c) (hm:m=news.length) (hm0:0<m)
  (hr:∀ (i:Nat) (u:Value),news[i]?=some u->w.cell? (ad.add i)=some u) (h1:∀ u∈news,zI4 u) (hlen:vs.length+m<=1000000000) (hbase:base<=w.heap.size)
  (h:∀ v' w',zE zI4 w' base e v' (vs ++ news)->Hid (w.grownBy w' v.ownBlock)->Hid (v'.ownBlock=v.ownBlock\/v'.ownBlock=some w.heap.size)->wpList P ops Q rest (a.put o.dst v') w'):wpList P ops Q (o :: rest) a w :=
 wpList_plain hgd fun _ hK=>yJ5 s x ho hT hI hs hown hx hm hm0 hr h1 hlen hbase fun v' w' h2 h3 h4=>hK _ _ (h v' w' h2 h3 h4)
end
structure TabX (w:World) (base:Nat) (V:Value) (us:List Value) (K:List (List Rat)):Prop where
 row:zE zI4 w base 44 V us
 len:us.length=K.length
 own:∀ (i:Nat) (u:Value) (r:List Rat),us[i]?=some u->K[i]?=some r->SlF .u64 4294967296 w u r
theorem TabX.below {w w':World} {base:Nat} {V:Value} {us:List Value} {K:List (List Rat)} (h:TabX w base V us K) (hb:Below w.heap.size w w'):TabX w' base V us K:=⟨h.row.below hb,h.len,fun i u r hu hr=>(h.own i u r hu hr).below hb⟩
theorem zE.apart {S S':Value->Prop} {w:World} {base base':Nat} {e e':TypeId} {v v':Value} {vs vs':List Value} (h:zE S w base e v vs) (h':zE S' w base' e' v' vs') (hne:e≠e'):∀ g,v.ownBlock=some g->v'.ownBlock≠some g:=fun g e1 e2=>by
 obtain ⟨cs,h1,_⟩:=h.2 g e1;obtain ⟨cs',h2,_⟩:=h'.2 g e2;rw [h1] at h2;injection h2 with h2;injection h2 with _ h2;exact hne h2
theorem qN1 (S:Value->Prop) (w:World) (base:Nat) (e:TypeId) (hb:base<=w.heap.size):zE S (w.alloc (.cells #[] e)) base e (.slice (some ⟨w.heap.size,0,none⟩) 0 0) [] :=
 ⟨qP5 w base e hb, fun g hg => by
  obtain rfl:w.heap.size=g:=by simpa [Value.ownBlock] using hg
  exact ⟨_,heap_alloc_new w _,fun c hc=>by simp at hc⟩⟩
theorem grew_of {w w':World} {v v':Value} (hg:w.grownBy w' v.ownBlock) (h5:v'.ownBlock=v.ownBlock\/v'.ownBlock=some w.heap.size):zH5 w w' v v' :=
 ⟨qJ3 hg h5, hg, fun g hlt hne e1 => by
  rcases h5 with h | h
  ·exact hne (h ▸ e1)
  ·rw [h] at e1;injection e1 with e1;omega⟩
theorem zE.set {w:World} {base g n c:Nat} {e:TypeId} {vs:List Value} (h:zE zI4 w base e (.slice (some ⟨g,0,none⟩) n c) vs) (i:Nat) {u:Value} (hu:zI4 u):zE zI4 (w.setCell ⟨g,i,none⟩ u) base e (.slice (some ⟨g,0,none⟩) n c) (vs.set i u):=by
 refine ⟨zD6.stored h.1 i u,fun g' hg' => ?_⟩;obtain rfl:g=g':=by simpa [Value.ownBlock] using hg'
 obtain ⟨cs,h1,h2⟩:=h.2 g rfl;refine ⟨_,heap_setCell h1,fun x hx => ?_⟩;have hx2:x∈cs\/x=u:=by first | exact Array.mem_or_eq_of_mem_setIfInBounds hx | (have h:=Array.mem_toList_iff.2 hx;rw [Array.toList_setIfInBounds] at h;exact (List.mem_or_eq_of_mem_set h).imp Array.mem_toList_iff.1 id)
 rcases hx2 with hx2 | rfl
 ·exact h2 x hx2
 ·exact hu
theorem zM2.keepB {k:IntKind} {B:Nat} {w w':World} {base:Nat} {e:TypeId} {V:Value} {vs:List Value} {v u:Value} {r:List Rat} (hX:zE zI4 w base e V vs) (hg:w.grownBy w' V.ownBlock) (h:zM2 k B w v u r):zM2 k B w' v u r:=by
  cases ho:V.ownBlock with
  | none=>rw [ho] at hg;exact h.below ⟨hg.os,hg.tape,hg.output,hg.size,fun k hk=>hg.block k hk (by simp)⟩
  | some g =>
    rw [ho] at hg;obtain ⟨cs,h1,h2⟩:=hX.2 g ho;obtain ⟨ps,p1,⟨A,c,e1,p2,p3,p4⟩,p5,p6⟩:=h;have hno:∀ c∈cs,∀ n,c ≠ .int k n:=fun c hc n=>by obtain ⟨A,n',m,rfl⟩:=h2 c hc;simp
    refine ⟨ps,p1,⟨A,c,e1,p2,p3,fun i p hp => ?_⟩,fun p hp=>⟨⟨Go.Proofs.YtagaabooccnamaaGreat.flow.off (p5 p hp).1.1 h1 hno hg,Go.Proofs.YtagaabooccnamaaGreat.flow.off (p5 p hp).1.2 h1 hno hg⟩,(p5 p hp).2⟩,fun x hx=>⟨Nat.lt_of_lt_of_le (p6 x hx).1 hg.size,(p6 x hx).2⟩⟩;obtain ⟨g',o,e2,c0,c1,c2⟩:=p4 i p hp
    have hne:some g'≠some g:=by
      intro e3;injection e3 with e3;subst e3;rw [cell_of_row w g' _ cs e (0,0) h1] at c0;obtain ⟨A',n',m',e4⟩:=h2 _ (Array.mem_of_getElem? c0);cases e4
    exact ⟨g',o,e2,hg.cell c0 hne,hg.cell c1 hne,hg.cell c2 hne⟩
def zN5 (w:World) (vp u:Value) (r:List Rat):Prop:=SlF .i64 10000 w u r/\(r≠[]->zM2 .i64 10000 w vp u r)
theorem zN5.below {w w':World} {vp u:Value} {r:List Rat} (h:zN5 w vp u r) (hb:Below w.heap.size w w'):zN5 w' vp u r:=⟨h.1.below hb,fun hr=>(h.2 hr).below hb⟩
theorem zN5.far {w w':World} {vp vp' u:Value} {r:List Rat} (h:zN5 w vp u r) (hF:r≠[]->zM2 .i64 10000 w' vp' u r):zN5 w' vp' u r:=by
 by_cases hr:r=[]
 ·subst hr;exact ⟨h.1.any,fun hr=>absurd rfl hr⟩
 ·exact ⟨(hF hr).sl,hF⟩
theorem zN5.sl {w:World} {vp u:Value} {r:List Rat} (h:zN5 w vp u r):zI4 u:=by
 obtain ⟨A,c,e,_⟩:=h.1.shape;exact ⟨_,_,_,e⟩
theorem jF1 {w:World} {vp u:Value} {r:List Rat} (h:SlF .i64 10000 w u r) (hv:∀ g,vp.ownBlock=some g->w.heap.size<=g):zN5 w vp u r:=by
 refine ⟨h,fun hr => ?_⟩;obtain ⟨g,o,c,rfl,hlt,_⟩:=h.place hr;obtain ⟨ps,h1,h2,h3⟩:=h
 exact ⟨ps,h1,h2,fun p hp=>⟨h3 p hp,(h3 p hp).1.farOld hv,(h3 p hp).2.farOld hv⟩,fun x hx=>by
  obtain rfl:g=x:=by simpa [Value.ownBlock] using hx
  exact ⟨hlt,fun e=>by have:=hv _ e;omega⟩⟩
structure TabD (w:World) (base:Nat) (V:Value) (us:List Value) (T:List (List Rat)) (vp:Value):Prop where
 row:zE zI4 w base 45 V us
 len:us.length=T.length
 own:∀ (i:Nat) (u:Value) (r:List Rat),us[i]?=some u->T[i]?=some r->zN5 w vp u r
theorem TabD.below {w w':World} {base:Nat} {V:Value} {us:List Value} {T:List (List Rat)} {vp:Value} (h:TabD w base V us T vp) (hb:Below w.heap.size w w'):TabD w' base V us T vp:=⟨h.row.below hb,h.len,fun i u r hu hr=>(h.own i u r hu hr).below hb⟩
theorem TabD.at_ {w:World} {base g n c:Nat} {us:List Value} {T:List (List Rat)} {vp:Value} (h:TabD w base (.slice (some ⟨g,0,none⟩) n c) us T vp) {i:Nat} {r:List Rat} (hr:T[i]?=some r):∃ Ar cr,us[i]?=some (.slice Ar r.length cr)/\w.cell? ⟨g,i,none⟩=some (.slice Ar r.length cr)/\zN5 w vp (.slice Ar r.length cr) r:=by
 have hi:i<us.length:=by rw [h.len];exact (zA4.1 hr).1
 have hu:us[i]?=some us[i]:=zA3 hi;have hs:=h.own i _ r hu hr;obtain ⟨Ar,cr,e,_,_⟩:=hs.1.shape;have hc:=h.row.1.cellAt hu;rw [e] at hu hs hc;exact ⟨Ar,cr,hu,hc,hs⟩
theorem TabD.set {w:World} {base g n c:Nat} {us:List Value} {T:List (List Rat)} {vp:Value} (h:TabD w base (.slice (some ⟨g,0,none⟩) n c) us T vp) (i:Nat) {u:Value} {r:List Rat} (hu:zN5 w vp u r):TabD (w.setCell ⟨g,i,none⟩ u) base (.slice (some ⟨g,0,none⟩) n c) (us.set i u) (T.set i r) vp:=by
 have hg:w.grownBy (w.setCell ⟨g,i,none⟩ u) (Value.ownBlock (.slice (some ⟨g,0,none⟩) n c)):=zE7 w g i u;refine ⟨h.row.set i hu.sl,by rw [zB3,zB3];exact h.len,fun j x y hx hy => ?_⟩;rcases zS3 hx with ⟨rfl,rfl⟩|⟨hj,hx⟩
 ·rcases zS3 hy with ⟨_,rfl⟩|⟨hj,_⟩
  ·exact hu.far fun hr=>zM2.keepB h.row hg (hu.2 hr)
  ·exact absurd rfl hj
 ·rcases zS3 hy with ⟨e,_⟩|⟨_,hy⟩
  ·exact absurd e hj
  ·have k:=h.own j x y hx hy;exact k.far fun hr=>zM2.keepB h.row hg (k.2 hr)
theorem TabD.keepP {w w':World} {base g n c:Nat} {us:List Value} {T:List (List Rat)} {vp u:Value} {r:List Rat} (h:TabD w base (.slice (some ⟨g,0,none⟩) n c) us T vp) (hg:w.grownBy w' (some g)) (hu:zN5 w vp u r):zN5 w' vp u r:=hu.far fun hr=>zM2.keepB h.row (show w.grownBy w' (Value.ownBlock (.slice (some ⟨g,0,none⟩) n c)) from hg) (hu.2 hr)
theorem TabD.piv {w w':World} {base:Nat} {V:Value} {us:List Value} {T:List (List Rat)} {vp vp':Value} (h:TabD w base V us T vp) (hp:zH5 w w' vp vp') (hne:∀ g,V.ownBlock=some g->vp.ownBlock≠some g):TabD w' base V us T vp' :=
 ⟨h.row.grown hp.2.1 hne,h.len,fun i u r hu hr=>(h.own i u r hu hr).far fun h0=>((h.own i u r hu hr).2 h0).keep hp⟩
theorem TabD.slT {w:World} {base:Nat} {V:Value} {us:List Value} {T:List (List Rat)} {vp:Value} (h:TabD w base V us T vp):SlT .i64 10000 w V T:=by
 refine ⟨us,h.len,?_,fun i u r hu hr=>(h.own i u r hu hr).1⟩;have h1:=h.row.1;rcases h1.2 with ⟨e,h0⟩|⟨g,cap,cur,e,_,hg,hn,hm,_,_⟩
 ·obtain rfl:us=[]:=List.length_eq_zero_iff.1 h0;exact ⟨none,0,e,by simp,by unfold maxLen;omega,fun i u hu=>by simp at hu⟩
 ·exact ⟨_,cap,e,hn,hm,fun i u hu=>⟨_,rfl,World.ownsRow.cells h1 (g:=g) (by rw [e];rfl) i u hu⟩⟩
theorem zD6.addr {w:World} {base:Nat} {e:TypeId} {V:Value} {vs:List Value} (h:zD6 w base e V vs) (hn:0<vs.length):∃ g c,V=.slice (some ⟨g,0,none⟩) vs.length c/\vs.length<=c:=by
 rcases h.2 with ⟨e,h0⟩|⟨g,cap,cur,e,_,hg,hn,hm,_,_⟩
 ·omega
 ·exact ⟨g,cap,e,hn⟩
section
variable {P:Program}
theorem jF2 {w:World} {ops:Array Oper} {rest:List Oper} {o:Oper} {a:Act} {Q:Exit->Act->World->Prop} (hgd:o.guard=none) (s x:Operand) {t:TypeId}
  (ho:o.op=.call { callee:=.builtin .append,args:=#[s,x],argTypes:=#[t,t] })
  {base g:Nat} {e:TypeId} (hT:P.underlying t=some (.slice e)) (hI:∃ i,P.info? e=some i/\i.zero=some (.slice none 0 0)/\i.size=1/\i.bytes=24) {news:List Value} (hs:a.eval s=.slice (some ⟨g,0,none⟩) 0 0) (hown:zE zI4 w base e (.slice (some ⟨g,0,none⟩) 0 0) []) {A:Option Addr} {m c:Nat} (hx:a.eval x=.slice A m c) (hm:m=news.length)
  (hr:∀ (i:Nat) (u:Value),news[i]?=some u -> ∃ ad,A=some ad/\w.cell? (ad.add i)=some u) (h1:∀ u∈news,zI4 u) (hlen:m<=1000000000) (hbase:base<=w.heap.size)
  (h:∀ v' w',zE zI4 w' base e v' news->Hid (w.grownBy w' (some g))->wpList P ops Q rest (a.put o.dst v') w'):wpList P ops Q (o :: rest) a w:=by
 by_cases hn:news=[]
 ·subst hn;have hm0:m=0:=hm;subst hm0;obtain ⟨i,hi,hz,hsz,hby⟩:=hI;refine wpList_plain hgd fun _ hK => ?_
  have hrun:(Builtin.append_ #[t,t] o.type #[.slice (some ⟨g,0,none⟩) 0 0,.slice A 0 c]).run P w=.ok (.slice (some ⟨g,0,none⟩) 0 0) w:=by
   cases A with
   | none=>simp [Builtin.append_,go_sem,run_underlying hT,sizeOf,typeInfo,hi,Builtin.lenOf,Builtin.firstCells,storeCells]
   | some ad=>simp [Builtin.append_,go_sem,run_underlying hT,sizeOf,typeInfo,hi,hsz,Builtin.lenOf,Builtin.firstCells,storeCells]
  unfold Oper.wp execOp;simp only [ho,resolve,invoke,builtin,Sem.run_bind,Sem.run_pure,Result.andThen_ok,List.map_toArray,List.map_cons,List.map_nil,hs,hx,hrun];exact hK _ _ (h _ _ hown (World.grownBy.refl _ _))
 ·have hpos:0<news.length:=List.length_pos_iff.2 hn;obtain ⟨ad,rfl,_⟩:=hr 0 _ (zA3 hpos);refine yJ6 hgd s x ho hT hI hs hown hx hm (by omega) (fun i u hu => ?_) h1 (by simpa using hlen) hbase fun v' w' h2 h3 h4=>h v' w' (by simpa using h2) h3;obtain ⟨ad',e,hc⟩:=hr i u hu;injection e with e;subst e;exact hc
end
def RetRd (T0:List (List Rat)) (n C S:Nat) (w:World) (e:Ending) (w':World):Prop:=∃ V v U qs,e=.returned (.tuple #[V,v])/\SlT .i64 10000 w' V U/\PvI w' v qs/\Rdc T0 U n C C qs S/\Below w.heap.size w w'
theorem Rdc.small {T0 T:List (List Rat)} {n C a S:Nat} {ps:List Nat} (h:Rdc T0 T n C a ps S) (hk:ps.length<n) (hS:(S+1)*2^n<=1900):zG8 T 950:=by
 obtain ⟨S',h1,h2⟩:=h.len;refine h1.mono ?_;have h3:(S+1)*2^(ps.length+1)<=(S+1)*2^n:=Nat.mul_le_mul_left _ (Nat.pow_le_pow_right (by omega) (by omega));rw [Nat.pow_succ,<- zB6] at h3;omega
def RdOk (T:List (List Rat)) (S:Nat):Prop:=T.length<=5/\zD2 T<=200/\zG8 T S/\(S+1)*2^T.length<=1900 /\ ∀ r∈T,r.length=zD2 T
theorem yJ7 (a0:Value) (T0:List (List Rat)) (S:Nat) (w:World) (h0:SlT .i64 10000 w a0 T0) (hc:Hid (RdOk T0 S)) :
    Calls prog 43 #[a0] w (RetRd T0 T0.length (zD2 T0) S w):=by
  have st0:=h0;obtain ⟨n,hn⟩:∃ n,n=T0.length:=⟨_,rfl⟩;obtain ⟨C,hC⟩:∃ C,C=zD2 T0:=⟨_,rfl⟩;have hn5:n<=5:=by rw [hn];exact hc.out.1
  have hC2:C<=200:=by rw [hC];exact hc.out.2.1
  have HSH:Hid (shp T0 n C):=⟨hn.symm,fun r hr=>by rw [hC];exact hc.out.2.2.2.2 r hr⟩
  have hC0:0<C->0<n:=fun h=>by
    rcases Nat.eq_zero_or_pos n with e | e
    · rw [hn] at e;rw [hC,List.length_eq_zero_iff.1 e] at h;exact absurd h (by decide)
    · exact e
  obtain ⟨us0,hul,⟨A0,c0,rfl,hucap,humax,hucell⟩,hus⟩:=h0;have HST:=hQ9 st0;have hul2:us0.length=n:=by rw [hn];exact hul
  rw [hul2] at st0 HST hucap |-;have HC:=hQ9 (zA hn hC);have ba:=zD1 (w:=w) (zB4 _) (.cells #[] 45);have RX0:=qN1 zI4 w w.heap.size 45 (zB4 _)
  have hcells:∀ (i:Nat) (u:Value),us0[i]?=some u -> ∃ ad,A0=some ad/\(w.alloc (.cells #[] 45)).cell? (ad.add i)=some u:=fun i u hu=>by
    obtain ⟨ad,h1,h2⟩:=hucell i u hu;exact ⟨ad,h1,(ba.cell (World.block_lt_of_cell? _ _ h2)).trans h2⟩
  have hsl0:∀ u∈us0,zI4 u:=fun u hu=>by
    obtain ⟨i,hi⟩:=List.mem_iff_getElem?.1 hu;obtain ⟨r,hr⟩:∃ r,T0[i]?=some r:=⟨_,zA3 (by rw [<- hul];exact (zA4.1 hi).1)⟩;obtain ⟨A,c,e,_⟩:=(hus i u r hi hr).shape;exact ⟨_,_,_,e⟩
  have HUS:=hQ9 hus;have hbs:w.heap.size<=(w.alloc (.cells #[] 45)).heap.size:=ba.size;clear hn hC hul hus hucell st0 humax
  go_enter func43,ntmps43
  go_wp2_with (at_builtin;refine jF2 rfl (.tmp 10) (.tmp 11) rfl underlying23 qM5 rfl RX0 rfl hul2.symm hcells hsl0 (by omega) hbs ?_;intro V w4 RX4 HG4)
  have b04:Below w.heap.size w w4:=ba.grown HG4.out ba.size (fun g hg=>by injection hg with hg;omega);have ba4:=zD1 (w:=w4) (zB4 _) (.cells #[] 3);have RP5:=qN1 isI w4 w4.heap.size 3 (zB4 _);have RP5':zE isI _ w.heap.size 3 _ []:=RP5.weak b04.size
  have TD5:TabD (w4.alloc (.cells #[] 3)) w.heap.size V us0 T0 (.slice (some ⟨w4.heap.size,0,none⟩) 0 0):=by
    refine ⟨RX4.below ba4,by rw [hul2];exact HC.out.1,fun i u r hu hr => ?_⟩
    exact (jF1 ((HUS.out i u r hu hr).below b04) (fun g hg=>by
      obtain rfl:w4.heap.size=g:=by simpa [Value.ownBlock] using hg
      exact zB4 _)).below ba4
  have b05:Hid (Below w.heap.size w (w4.alloc (.cells #[] 3))):=b04.trans (ba4.mono b04.size);have HD0:Hid (Rdc T0 T0 n C 0 [] S):=Rdc.start HSH.out hc.out.2.2.1;clear ba RX0 hcells RX4 HG4 b04 ba4 RP5 hsl0 hbs HUS hul2;go_wp2
  go_loopw [5,6] (fun v5 v6 wr => ∃ (j:Nat) (T:List (List Rat)) (us:List Value) (ps:List Nat),j<=C/\Hid (Rdc T0 T n C j ps S)/\TabD wr w.heap.size V us T v5/\zE isI wr w.heap.size 3 v5 (pI ps)/\Hid (Below w.heap.size w wr)/\v6=.int .i64 (j:Int)) (fun _ v6 _=>C-(intOf v6).toNat)
  case atStart=>exact ⟨0,T0,us0,[],by omega,HD0,TD5,RP5',b05,rfl⟩
  case round =>
    clear TD5 RP5' b05 HD0;obtain ⟨j,T,us,ps,hj,HD,TD,RP,HB,rfl⟩:=hrel;obtain ⟨wo,hwo⟩:∃ wo,wo=wr:=⟨_,rfl⟩;subst hwo;obtain ⟨A5,c5,e5⟩:=zD6.slice RP.1;rw [zS7] at e5;subst e5;have hstw:=HST.out.below HB.out;go_wp2_with fail
    refine (qT5 _ T0 _ hstw).mono ?_;rintro e w6 ⟨rfl,b6⟩;rw [<- HC.out.2];have TD6:=TD.below b6;have RP6:=RP.below b6;have HB6:Hid (Below w.heap.size w w6):=HB.out.trans (b6.mono HB.out.size);clear TD RP HB b6 hstw;by_cases hlt:j<C
    · have hn0:=hC0 (by omega);have hTl : T.length = n:=HD.out.sh.1;have hul : us.length = n:=by rw [TD6.len]; exact hTl
      obtain ⟨g,cV,eV,hcV⟩:=zD6.addr TD6.row.1 (by omega);rw [hul] at eV;rw [hul] at hcV;subst eV;have hpn:ps.length<=n:=HD.out.ech.le;have HTL:=hQ9 (zA hTl hul);clear hTl hul;go_wp2
      go_loopw [8] (fun v8 wr => ∃ k:Nat,ps.length<=k/\k<=n/\Hid (∀ i,ps.length<=i->i<k->zC0 T i j=0)/\Hid (Below w6.heap.size w6 wr)/\v8=.int .i64 (k:Int)) (fun v8 _=>n-(intOf v8).toNat)
      case atStart=>exact ⟨ps.length,zB4 _,hpn,(by show ∀ i,_;intro i h1 h2;omega),Below.refl _ _,rfl⟩
      case round =>
        obtain ⟨k,hpk,hkn,HZ,HB7,rfl⟩:=hrel;by_cases hk:k<n
        · obtain ⟨r, hr, hrl, hq⟩ := zW4 HD.out.sh hk hlt;obtain ⟨q,hqe⟩ : ∃ q,q = zC0 T k j:=⟨_,rfl⟩;rw [<- hqe] at hq;have HQE:=hQ9 hqe;obtain ⟨Ar,cr,hur,ecr,sr⟩:=(TD6.below HB7.out).at_ hr;obtain ⟨gr,or,uq,tq,rfl,hia,k0,k1,k2,sq,dq⟩:=sr.1.at_ hq;obtain ⟨Aq,cq,rfl,_⟩:=id sq;obtain ⟨Dq,eq,rfl,_⟩:=id dq;have hix:=fun w => zI9 (P:=prog) underlying45 (by kernel_rfl) (g:=gr) (o:=or) (c:=cr) hia w;have kq : IsP wr (.agg #[.bool (ngB q.num),.slice Aq (digs 10000 q.num.natAbs).length cq,.slice Dq (digs 10000 q.den).length eq]) q:=⟨_,_,rfl,sq,dq⟩;clear hr hq sr hqe hrl hur;by_cases hq0:q=0
          · have CZ:=yD2 _ q true _ kq (decide_eq_true hq0).symm
            have HZ2:Hid (∀ i,ps.length<=i->i<k+1->zC0 T i j=0):=by
              show ∀ i,_
              intro i h1 h2;by_cases e:i=k
              · subst e;rw [<- HQE.out];exact hq0
              · exact HZ.out i h1 (by omega)
            clear hq0 kq;go_wp2_with fail
            refine CZ.mono ?_;rintro e w8 ⟨rfl,b8⟩;have HB8:Hid (Below w6.heap.size w6 w8):=HB7.out.trans (b8.mono HB7.out.size);clear CZ HB7 HZ;go_wp2;go_roundw;case rel=>exact ⟨k+1,by omega,by omega,HZ2,HB8,by go_num⟩
            case measure=>simp [intOf];omega
          · have CZ:=yD2 _ q false _ kq (decide_eq_false hq0).symm;have HNE:Hid (zC0 T k j≠0):=by show _≠_;rw [<- HQE.out];exact hq0
            clear hq0 kq;go_wp2_with fail
            refine CZ.mono ?_;rintro e w8 ⟨rfl,b8⟩;have b68:=HB7.out.trans (b8.mono HB7.out.size);have TD8:=TD6.below b68;have RP8:=RP6.below b68;have HB8:Hid (Below w.heap.size w w8):=HB6.out.trans (b68.mono HB6.out.size);have hkb:((k:Int) == (n:Int))=false:=by rw [beq_eq_false_iff_ne];omega
            obtain ⟨w8',hw8⟩:∃ w8',w8'=w8:=⟨_,rfl⟩;subst hw8;clear CZ HB7 HZ TD6 RP6 HB6 b68 b8 k0 k1 k2 sq dq ecr hix;have hat:ps.length<n:=by omega
            have hgb:w.heap.size<=g:=TD8.row.1.base_le g rfl;have HGB:=hQ9 hgb;go_upto_region 11 with (fail)
            go_cut [] from 43 to 56 (fun wx => ∃ us2:List Value,TabD wx w.heap.size (.slice (some ⟨g,0,none⟩) n cV) us2 (zG7 T ps.length k) (.slice A5 ps.length c5)/\zE isI wx w.heap.size 3 (.slice A5 ps.length c5) (pI ps)/\Hid (Below w.heap.size w wx))
            case first =>
              by_cases hke:k=ps.length
              · subst hke;obtain ⟨rk,hrk,-⟩:=zH7 HD.out.sh hat;obtain ⟨Ak,ck,huk,eck,srk⟩:=TD8.at_ hrk;have fk:=TD8.row.1.frozenAt ps.length;have HRK:=hQ9 hrk;clear hrk;go_region
                all_goals
                  have TD9:=TD8.set ps.length srk;have srk9:=TD8.keepP (zE7 w8' g ps.length (.slice Ak rk.length ck)) srk;have TD10:=TD9.set ps.length srk9;rw [show (T.set ps.length rk).set ps.length rk=zG7 T ps.length ps.length by unfold zG7;rw [zJ2 HRK.out]] at TD10;have G10:w8'.grownBy ((w8'.setCell ⟨g,ps.length,none⟩ (.slice Ak rk.length ck)).setCell ⟨g,ps.length,none⟩ (.slice Ak rk.length ck)) (some g):=(zE7 w8' g ps.length (.slice Ak rk.length ck)).trans (zE7 _ g ps.length (.slice Ak rk.length ck));have RP10:=RP8.grown G10 (fun x e1 e2=>RP8.apart TD8.row (by decide) x e1 e2);have HB10:Hid (Below w.heap.size w _):=HB8.out.grown G10 HB8.out.size (fun q e=>by injection e with e;have:=HGB.out;omega);have bdr:=(Below.refl ((w8'.setCell ⟨g,ps.length,none⟩ (.slice Ak rk.length ck)).setCell ⟨g,ps.length,none⟩ (.slice Ak rk.length ck)).heap.size ((w8'.setCell ⟨g,ps.length,none⟩ (.slice Ak rk.length ck)).setCell ⟨g,ps.length,none⟩ (.slice Ak rk.length ck))).drew;have TD11:=TD10.below bdr;have RP11:=RP10.below bdr;have HB11:Hid (Below w.heap.size w _):=HB10.out.trans (bdr.mono HB10.out.size);clear TD9 srk9 TD10 G10 RP10 HB10 bdr TD8 RP8 HB8 srk;go_wp2
                  go_meet
                  exact ⟨_,TD11,RP11,HB11.out⟩
              · have hke2:¬ ps.length=k:=fun e=>hke e.symm;obtain ⟨rk,hrk,-⟩:=zH7 HD.out.sh hat;obtain ⟨rf,hrf,-⟩:=zH7 HD.out.sh hk;obtain ⟨Ak,ck,huk,eck,srk⟩:=TD8.at_ hrk;obtain ⟨Af,cf,huf,ecf,srf⟩:=TD8.at_ hrf;have fk:=TD8.row.1.frozenAt ps.length;have ff:=TD8.row.1.frozenAt k;have HRK:=hQ9 (zA hrk hrf);clear hrk hrf;go_region
                all_goals
                  have TD9:=TD8.set ps.length srf;have srk9:=TD8.keepP (zE7 w8' g ps.length (.slice Af rf.length cf)) srk;have TD10:=TD9.set k srk9;rw [show (T.set ps.length rf).set k rk=zG7 T ps.length k by unfold zG7;rw [zJ2 HRK.out.1,zJ2 HRK.out.2]] at TD10;have G10:w8'.grownBy ((w8'.setCell ⟨g,ps.length,none⟩ (.slice Af rf.length cf)).setCell ⟨g,k,none⟩ (.slice Ak rk.length ck)) (some g):=(zE7 w8' g ps.length (.slice Af rf.length cf)).trans (zE7 _ g k (.slice Ak rk.length ck));have RP10:=RP8.grown G10 (fun x e1 e2=>RP8.apart TD8.row (by decide) x e1 e2);have HB10:Hid (Below w.heap.size w _):=HB8.out.grown G10 HB8.out.size (fun q e=>by injection e with e;have:=HGB.out;omega);have bdr:=(Below.refl ((w8'.setCell ⟨g,ps.length,none⟩ (.slice Af rf.length cf)).setCell ⟨g,k,none⟩ (.slice Ak rk.length ck)).heap.size ((w8'.setCell ⟨g,ps.length,none⟩ (.slice Af rf.length cf)).setCell ⟨g,k,none⟩ (.slice Ak rk.length ck))).drew;have TD11:=TD10.below bdr;have RP11:=RP10.below bdr;have HB11:Hid (Below w.heap.size w _):=HB10.out.trans (bdr.mono HB10.out.size);clear TD9 srk9 TD10 G10 RP10 HB10 bdr TD8 RP8 HB8 srk srf;go_wp2
                  go_meet
                  exact ⟨_,TD11,RP11,HB11.out⟩
            case rest =>
              obtain ⟨us2,TD9',RP9',HB9'⟩:=hcut;obtain ⟨w9,hw9⟩:∃ w9,w9=wc:=⟨_,rfl⟩;subst hw9;clear TD8 RP8 HB8 hgb;obtain ⟨T1,hT1⟩:∃ T1,T1=zG7 T ps.length k:=⟨_,rfl⟩;rw [<- hT1] at TD9';have hs1:shp T1 n C:=by rw [hT1];exact qF9 HD.out.sh hat hk
              obtain ⟨r1,hr1,hrl1,hq1⟩:=zW4 hs1 hat hlt;obtain ⟨q1,hqe⟩:∃ q1,q1=zC0 T1 ps.length j:=⟨_,rfl⟩;rw [<- hqe] at hq1
              have hqf:q1=zC0 T k j:=by
                rw [hqe,hT1,qL5 HD.out.sh hat hk];exact congrFun (if_pos rfl) j
              have hq0:q1≠0:=by rw [hqf];exact HNE.out
              have hR1:zG8 T1 950:=by rw [hT1];exact qS8 HD.out.sh hat hk (HD.out.small hat (by have:=hc.out.2.2.2.1;rwa [<- HC.out.1] at this))
              have hLr:zL5 r1 950:=hR1 r1 (zA5 hr1);obtain ⟨X,hX⟩:∃ X,X=q1⁻¹:=⟨_,rfl⟩;have hLX:zC6 X 950:=by rw [hX];exact yB7 hq0 (hLr.len q1 (zA5 hq1))
              have CV:∀ w a,IsP w a q1->Calls prog 85 #[a] w (qB1 X w):=fun w a h1=>by rw [hX];exact yW4 a q1 w h1 hq0
              have HLS:Hid ((zF3 r1 X).length<=r1.length/\r1.length<=1000000/\(∀ x∈r1,zC6 x 10000)/\zC6 X 10000):=⟨by rw [qB6];exact zB4 _,by omega,fun x hx=>(hLr.len x hx).mono (by omega),hLX.mono (by omega)⟩;have HE:=hQ9 (zA hT1 (zA hs1 (zA hr1 (zA hrl1 (zA hq1 (zA hqe (zA hqf (zA hq0 (zA hR1 (zA hX hLr))))))))));have bd:=(Below.refl w9.heap.size w9).drew;have TDd:=TD9'.below bd;have RPd:=RP9'.below bd;have HBd:Hid (Below w.heap.size w w9.drew):=HB9'.out.trans (bd.mono HB9'.out.size);obtain ⟨Ar,cr,hur,ecr,sr⟩:=TDd.at_ hr1;obtain ⟨gr,or,uq,tq,rfl,hia,k0,k1,k2,sq,dq⟩:=sr.1.at_ hq1;obtain ⟨Aq,cq,rfl,_⟩:=id sq;obtain ⟨Dq,eq,rfl,_⟩:=id dq;have hix:=fun w=>zI9 (P:=prog) underlying45 (by kernel_rfl) (g:=gr) (o:=or) (c:=cr) hia w;have kq:IsP w9.drew (.agg #[.bool (ngB q1.num),.slice Aq (digs 10000 q1.num.natAbs).length cq,.slice Dq (digs 10000 q1.den).length eq]) q1:=⟨_,_,rfl,sq,dq⟩;have hps2:Hid (∀ g,(Value.slice A5 ps.length c5).ownBlock=some g->g<w9.drew.heap.size):=fun g hg=>RPd.1.under g hg;clear TD9' RP9' HB9' hT1 hs1 hrl1 hqe hqf hq0 hR1 hX hLX hLr hur;clear hr1 hq1;go_upto_region 12 with (fail)
              go_cut [] from 57 to 72 (fun wx => ∃ us3:List Value,TabD wx w.heap.size (.slice (some ⟨g,0,none⟩) n cV) us3 (T1.set ps.length (zF3 r1 X)) (.slice A5 ps.length c5)/\zE isI wx w.heap.size 3 (.slice A5 ps.length c5) (pI ps)/\Hid (Below w.heap.size w wx))
              case first =>
                go_region_law (first
                  | (go_simp;go_at_call 85;refine (CV _ _ (by exact kq)).mono ?_;rintro e w10 ⟨v10,rfl,k10,b10⟩;obtain ⟨u10,t10,rfl,s10,d10⟩:=id k10;obtain ⟨A10,c10,rfl,_⟩:=id s10;obtain ⟨D10,e10,rfl,_⟩:=id d10;have sr10:=sr.1.below b10;have ecr10:=(b10.cell (World.block_lt_of_cell? _ _ ecr)).trans ecr)
                  | (go_simp;go_at_call 84;refine (jE9 _ _ r1 X _ (by exact sr10) (by exact k10) HLS.out).mono ?_;rintro e w11 ⟨Vn,rfl,SN,b11⟩;obtain ⟨An,cn,rfl,-,-⟩:=SN.sl.shape;have TD11:=(TDd.below b10).below b11;have f11:=TD11.row.1.frozenAt ps.length;obtain ⟨A12,c12,-,e12,-⟩:=TD11.at_ HE.out.2.2.1))
                all_goals
                  have hps10:∀ g,(Value.slice A5 ps.length c5).ownBlock=some g->g<w10.heap.size:=fun g hg=>Nat.lt_of_lt_of_le (hps2.out g hg) b10.size;have OW:zN5 w11 (.slice A5 ps.length c5) (.slice An (zF3 r1 X).length cn) (zF3 r1 X):=⟨SN.sl,fun _=>SN.far hps10⟩;have TD13:=TD11.set ps.length OW;have RP11:=(RPd.below b10).below b11;have RP13:=RP11.grown (zE7 w11 g ps.length (.slice An (zF3 r1 X).length cn)) (fun x e1 e2=>RP11.apart TD11.row (by decide) x e1 e2);have HB11:=(HBd.out.trans (b10.mono HBd.out.size)).trans (b11.mono (HBd.out.trans (b10.mono HBd.out.size)).size);have HB13:Hid (Below w.heap.size w _):=HB11.grown (zE7 w11 g ps.length (.slice An (zF3 r1 X).length cn)) HB11.size (fun q e=>by injection e with e;have:=HGB.out;omega);clear TD11 RP11 OW SN HB11 TDd RPd HBd kq sr sr10 k10 s10 d10;go_wp2
                  go_meet
                  exact ⟨_,TD13,RP13,HB13.out⟩
              case rest =>
                obtain ⟨us3,TD13,RP13,HB13⟩:=hcut;obtain ⟨w13,hw13⟩:∃ w13,w13=wc:=⟨_,rfl⟩;subst hw13;clear TDd RPd HBd kq sr k0 k1 k2 ecr hix CV sq dq hps2;have hkl:ps.length<T1.length:=by rw [HE.out.2.1.1];exact hat
                obtain ⟨T2,hT2⟩:∃ T2,T2=T1.set ps.length (zF3 r1 X):=⟨_,rfl⟩;rw [<- hT2] at TD13
                have eT2:T2=zO5 (zG7 T ps.length k) ps.length (zC0 (zG7 T ps.length k) ps.length j)⁻¹:=by
                  rw [hT2,zO5,<- HE.out.1,zJ2 HE.out.2.2.1,HE.out.2.2.2.2.2.2.2.2.2.1,HE.out.2.2.2.2.2.1]
                have hs2:shp T2 n C:=by rw [hT2];exact qB8 HE.out.2.1 (by rw [qB6];exact HE.out.2.2.2.1)
                obtain ⟨p,hp⟩:∃ p,p=zF3 r1 X:=⟨_,rfl⟩;have hp2:T2[ps.length]?=some p:=by rw [hT2,hp];exact List.getElem?_set_self hkl
                have hR2:zG8 T2 950:=by
                  rw [hT2];intro x hx;rcases List.mem_or_eq_of_mem_set hx with hx | rfl
                  · exact HE.out.2.2.2.2.2.2.2.2.1 x hx
                  · rw [HE.out.2.2.2.2.2.2.2.2.2.1];exact HE.out.2.2.2.2.2.2.2.2.2.2.scale (zA5 HE.out.2.2.2.2.1) HE.out.2.2.2.2.2.2.2.1
                have HPV:Hid (zF9 T2 (fun i=>decide (i≠ps.length)) p j n=zK2 T (fun i=>decide (i≠ps.length)) ps.length k j n):=by
                  show _=_
                  unfold zK2;rw [<- eT2,zJ2 hp2]
                have HDN:Hid (Rdc T0 (zK2 T (fun i=>decide (i≠ps.length)) ps.length k j n) n C (j+1) (ps ++ [j]) S):=HD.out.pivot hlt hpk hk HNE.out;have hpl:Hid (p.length=C):=hs2.2 _ (zA5 hp2);have HPL:Hid (∀ x∈p,zC6 x 2000):=fun x hx=>((hR2 p (zA5 hp2)).len x hx).mono (by omega);have H2:=hQ9 (zA hs2 (zA hp2 hR2));have HPS:Hid (pI ps ++ [.int .i64 (j:Int)]=pI (ps ++ [j])):=yI3 ps j;clear hT2 eT2 hs2 hp2 hR2 hp hkl;go_wp2
                go_loopw [9] (fun v9 wr => ∃ (i:Nat) (us4:List Value),i<=n/\TabD wr w.heap.size (.slice (some ⟨g,0,none⟩) n cV) us4 (zF9 T2 (fun i=>decide (i≠ps.length)) p j i) (.slice A5 ps.length c5)/\zE isI wr w.heap.size 3 (.slice A5 ps.length c5) (pI ps)/\Hid (Below w.heap.size w wr)/\v9=.int .i64 (i:Int)) (fun v9 _=>n-(intOf v9).toNat)
                case atStart=>exact ⟨0,us3,by omega,TD13,RP13,HB13,rfl⟩
                case round =>
                  clear TD13 RP13 HB13;obtain ⟨i,us4,hin,TD,RP,HB,rfl⟩:=hrel;obtain ⟨wq,hwq⟩:∃ wq,wq=wr:=⟨_,rfl⟩;subst hwq;by_cases hi:i<n
                  · by_cases hia2:i=ps.length
                    · subst hia2;have HNX:Hid (zF9 T2 (fun i=>decide (i≠ps.length)) p j (ps.length+1)=zF9 T2 (fun i=>decide (i≠ps.length)) p j ps.length):=qS5 (by simp);go_wp2;go_roundw;case rel=>exact ⟨ps.length+1,us4,by omega,by rw [HNX.out];exact TD,RP,HB,by go_num⟩
                      case measure=>simp [intOf];omega
                    · have hnb:((i:Int) == (ps.length:Int))=false:=by rw [beq_eq_false_iff_ne];omega
                      obtain ⟨r,hr,hrl,hq⟩:=zW4 H2.out.1 hi hlt;obtain ⟨q,hqe⟩:∃ q,q=zC0 T2 i j:=⟨_,rfl⟩;rw [<- hqe] at hq;have hrU:(zF9 T2 (fun i=>decide (i≠ps.length)) p j i)[i]?=some r:=by rw [qG _ _ _ _ i i (zB4 _)];exact hr
                      have hpU:(zF9 T2 (fun i=>decide (i≠ps.length)) p j i)[ps.length]?=some p:=by rw [qS4 (by simp)];exact H2.out.2.1
                      have bd:=(Below.refl wq.heap.size wq).drew;have TDd:=TD.below bd;have RPd:=RP.below bd;have HBd:Hid (Below w.heap.size w wq.drew):=HB.out.trans (bd.mono HB.out.size);obtain ⟨Ar,cr,hur,ecr,sr⟩:=TDd.at_ hrU;obtain ⟨Ap,cp,hup,ecp,sp⟩:=TDd.at_ hpU;obtain ⟨gr,or,uq,tq,rfl,hia,k0,k1,k2,sq,dq⟩:=sr.1.at_ hq;obtain ⟨Aq,cq,rfl,_⟩:=id sq;obtain ⟨Dq,eq,rfl,_⟩:=id dq;have hix:=fun w=>zI9 (P:=prog) underlying45 (by kernel_rfl) (g:=gr) (o:=or) (c:=cr) hia w;have kq:IsP wq.drew (.agg #[.bool (ngB q.num),.slice Aq (digs 10000 q.num.natAbs).length cq,.slice Dq (digs 10000 q.den).length eq]) q:=⟨_,_,rfl,sq,dq⟩;have hps2:Hid (∀ g,(Value.slice A5 ps.length c5).ownBlock=some g->g<wq.drew.heap.size):=fun g hg=>RPd.1.under g hg;have HRE:=hQ9 (zA hr (zA hrU hpU));have hLr:=H2.out.2.2 r (zA5 hr);have HRL:Hid (r.length=p.length):=hrl.trans hpl.out.symm;have HLS:Hid ((zG4 r q p).length<=r.length/\r.length<=1000000/\(∀ x∈r,zC6 x 2000)/\(∀ x∈p,zC6 x 2000)/\zC6 q 2000):=⟨by rw [qL1 HRL.out];exact zB4 _,by omega,fun x hx=>(hLr.len x hx).mono (by omega),HPL.out,(hLr.len q (zA5 hq)).mono (by omega)⟩
                      have HNX:Hid ((zF9 T2 (fun i=>decide (i≠ps.length)) p j i).set i (zG4 r q p)=zF9 T2 (fun i=>decide (i≠ps.length)) p j (i+1)):=by
                        show _=_
                        rw [qL7 (by simpa using hia2) hr,hqe]
                      clear hr hq hqe hrU hpU hLr hur hup hrl TD RP HB bd;go_upto_region 17 with (fail)
                      go_region_law (go_simp;go_at_call 86;refine (jF _ _ _ r q p _ (by exact sr.1) (by exact kq) (by exact sp.1) HRL.out HLS.out).mono ?_;rintro e w15 ⟨Vn,rfl,SN,b15⟩;obtain ⟨An,cn,rfl,-,-⟩:=SN.sl.shape;have TD15:=TDd.below b15;have f15:=TD15.row.1.frozenAt i;obtain ⟨A16,c16,-,e16,-⟩:=TD15.at_ HRE.out.2.1)
                      all_goals
                        have OW:zN5 w15 (.slice A5 ps.length c5) (.slice An (zG4 r q p).length cn) (zG4 r q p):=⟨SN.sl,fun _=>SN.far hps2.out⟩;have TD17:=TD15.set i OW;rw [HNX.out] at TD17;have RP15:=RPd.below b15;have RP17:=RP15.grown (zE7 w15 g i (.slice An (zG4 r q p).length cn)) (fun x e1 e2=>RP15.apart TD15.row (by decide) x e1 e2);have HB15:=HBd.out.trans (b15.mono HBd.out.size);have HB17:Hid (Below w.heap.size w _):=HB15.grown (zE7 w15 g i (.slice An (zG4 r q p).length cn)) HB15.size (fun q e=>by injection e with e;have:=HGB.out;omega);clear TD15 RP15 OW SN HB15 TDd RPd HBd kq sr sp;go_wp2;go_roundw;case rel=>exact ⟨i+1,_,by omega,TD17,RP17,HB17,by go_num⟩
                        case measure=>simp [intOf];omega
                  · obtain rfl:i=n:=by omega
                    rw [HPV.out] at TD;have ba:=zD1 (w:=wq) (zB4 _) (.cells #[.int .i64 (j:Int)] 3);have TD11:=TD.below ba;have RP11:=RP.below ba;have HB11:Hid (Below w.heap.size w _):=HB.out.trans (ba.mono HB.out.size);have hbase:w.heap.size<=(wq.alloc (.cells #[.int .i64 (j:Int)] 3)).heap.size:=HB11.out.size;have hone:=cell_one_new wq (.int .i64 (j:Int)) 3;have hlp:(pI ps).length+1<=1000000000:=by rw [zS7];omega
                    clear TD RP HB ba
                    go_wp2_with (at_builtin;refine qT8 rfl (.tmp 101) (.tmp 103) rfl underlying36 info_int rfl RP11 rfl rfl (by decide) hone (fun u hu=>by (obtain rfl:=List.mem_singleton.1 hu;exact ⟨_,rfl⟩)) hlp hbase ?_;intro v12 w12 RP12 HG12 HX12)
                    have TD12:=TD11.piv (grew_of HG12.out HX12.out) (fun x e1 e2=>RP11.apart TD11.row (by decide) x e2 e1);have HB12:Hid (Below w.heap.size w w12):=HB11.out.grown HG12.out HB11.out.size (fun x e=>RP11.1.base_le x e);rw [HPS.out] at RP12;clear TD11 RP11 HB11 hone;go_wp2;go_roundw;case rel=>exact ⟨j+1,_,us4,ps ++ [j],by omega,HDN,TD12,RP12,HB12,by go_num⟩
                    case measure=>simp [intOf];omega
        · obtain rfl:k=n:=by omega
          have HD5:Hid (Rdc T0 T k C (j+1) ps S):=HD.out.skip fun i h1 h2=>HZ.out i h1 h2;have TD7:=TD6.below HB7.out;have RP7:=RP6.below HB7.out;have HB8:Hid (Below w.heap.size w wr):=HB6.out.trans (HB7.out.mono HB6.out.size);clear TD6 RP6 HB7 HB6 HZ;go_wp2;go_roundw;case rel=>exact ⟨j+1,T,us,ps,by omega,HD5,TD7,RP7,HB8,by go_num⟩
          case measure=>simp [intOf];omega
    · obtain rfl:j=C:=by omega
      have HV:=hQ9 TD6.slT;have HP:=hQ9 RP6.pvI;clear TD6 RP6;go_wp2;go_ret2;exact ⟨_,_,T,ps,rfl,HV.out,HP.out,by rw [<- HC.out.1,<- HC.out.2];exact HD.out,HB6.out⟩
theorem wide_le {t:List (List Rat)} {m:Nat} (h:∀ r∈t,r.length<=m):zD2 t<=m:=by
 cases t with
 | nil=>exact Nat.zero_le _
 | cons r t=>exact h r List.mem_cons_self
theorem jF3 {p:List (List Rat)} {m:Nat} (h2:∀ r∈p,r.length<=m) (h3:zH6 p 1):zG8 p (m+1):=fun r hr=>(qL8 (fun x hx=>h3 r hr x hx)).mono (by have:=h2 r hr;omega)
theorem zE.keepH {k:IntKind} {B:Nat} {w w':World} {base:Nat} {e:TypeId} {V:Value} {vs:List Value} {v:Value} {r:List Rat} (h:zE zI4 w base e V vs) (hg:w.grownBy w' V.ownBlock) (hs:SlF k B w v r):SlF k B w' v r:=by
  cases ho:V.ownBlock with
  | none=>rw [ho] at hg;exact hs.below ⟨hg.os,hg.tape,hg.output,hg.size,fun k hk=>hg.block k hk (by simp)⟩
  | some g =>
    rw [ho] at hg;obtain ⟨cs,h1,h2⟩:=h.2 g ho;exact hs.keepX h1 (fun c hc b=>by obtain ⟨A,n,m,rfl⟩:=h2 c hc;simp) (fun c hc n=>by obtain ⟨A,n',m,rfl⟩:=h2 c hc;simp) hg
structure TabG (w:World) (base:Nat) (V:Value) (us:List Value) (K:List (List Rat)):Prop where
 row:zE zI4 w base 45 V us
 len:us.length=K.length
 own:∀ (i:Nat) (u:Value) (r:List Rat),us[i]?=some u->K[i]?=some r->SlF .i64 10000 w u r
theorem TabG.below {w w':World} {base:Nat} {V:Value} {us:List Value} {K:List (List Rat)} (h:TabG w base V us K) (hb:Below w.heap.size w w'):TabG w' base V us K:=⟨h.row.below hb,h.len,fun i u r hu hr=>(h.own i u r hu hr).below hb⟩
theorem TabG.snoc {w w':World} {base:Nat} {V V' u:Value} {us:List Value} {K:List (List Rat)} {r:List Rat} (h:TabG w base V us K) (h':zE zI4 w' base 45 V' (us ++ [u])) (hg:w.grownBy w' V.ownBlock) (hu:SlF .i64 10000 w u r):TabG w' base V' (us ++ [u]) (K ++ [r]):=by
 refine ⟨h',by simp [h.len],fun i a b ha hb => ?_⟩;by_cases hi:i<us.length
 ·rw [zB0 hi] at ha;rw [zB0 (by rw [<- h.len];exact hi)] at hb;exact h.row.keepH hg (h.own i a b ha hb)
 ·rw [List.getElem?_append_right (by omega)] at ha;rw [List.getElem?_append_right (by rw [<- h.len];omega),<- h.len] at hb;rcases hj:i-us.length with _ | j
  ·rw [hj] at ha hb;obtain rfl:u=a:=by simpa using ha
   obtain rfl:r=b:=by simpa using hb
   exact h.row.keepH hg hu
  ·rw [hj] at ha;simp at ha
theorem TabG.slT {w:World} {base:Nat} {V:Value} {us:List Value} {K:List (List Rat)} (h:TabG w base V us K):SlT .i64 10000 w V K:=by
 refine ⟨us,h.len,?_,h.own⟩;have h1:=h.row.1;rcases h1.2 with ⟨e,h0⟩|⟨g,cap,cur,e,_,hg,hn,hm,_,_⟩
 ·obtain rfl:us=[]:=List.length_eq_zero_iff.1 h0;exact ⟨none,0,e,by simp,by unfold maxLen;omega,fun i u hu=>by simp at hu⟩
 ·exact ⟨_,cap,e,hn,hm,fun i u hu=>⟨_,rfl,World.ownsRow.cells h1 (g:=g) (by rw [e];rfl) i u hu⟩⟩
section
variable {P:Program}
theorem jF4 {w:World} {ops:Array Oper} {o:Oper} {a:Act} {K:Act->World->Prop} {Q:Exit->Act->World->Prop} {E:Prop} (hgd:o.guard=none) (s x:Operand) {t:TypeId}
  (ho:o.op=.call { callee:=.builtin .append,args:=#[s,x],argTypes:=#[t,t] })
  {base:Nat} {e:TypeId} (hT:P.underlying t=some (.slice e)) (hI:∃ i,P.info? e=some i/\i.zero=some (.slice none 0 0)/\i.size=1/\i.bytes=24) {v:Value} {vs news:List Value} (hs:a.eval s=v) (hown:zE zI4 w base e v vs) {ad:Addr} {m c:Nat} (hx:a.eval x=.slice (some ad) m c) (hm:m=news.length) (hm0:0<m)
  (hr:∀ (i:Nat) (u:Value),news[i]?=some u->w.cell? (ad.add i)=some u) (h1:∀ u∈news,zI4 u) (hlen:vs.length+m<=1000000000) (hbase:base<=w.heap.size)
  (h:∀ v' w',zE zI4 w' base e v' (vs ++ news)->Hid (w.grownBy w' v.ownBlock)->Hid (v'.ownBlock=v.ownBlock\/v'.ownBlock=some w.heap.size)->K (a.put o.dst v') w') :
  if Region.wanted o (yielded ops a.tmps)=true then Oper.wp P o a w K Q else E:=by
 have hw:Region.wanted o (yielded ops a.tmps)=true:=by simp [Region.wanted,hgd]
 rw [if_pos hw];exact yJ5 s x ho hT hI hs hown hx hm hm0 hr h1 hlen hbase h
end
theorem yJ8 {α : Type} {l:List α} {k:Nat} {x : α} (h:l[k]?=some x):l.take (k+1)=l.take k ++ [x]:=by rw [List.take_add_one,h];rfl
theorem zM8.cutFrom {w:World} {g o n c k:Nat} {A:Option Addr} {ps:List Elt} (h:zM8 w (.slice (some ⟨g,o,none⟩) n c) ps) (hk:k<=ps.length) (hA:k<ps.length->A=some ⟨g,o+k*3,none⟩):zM8 w (.slice A (n-k) (c-k)) (ps.drop k):=by
 obtain ⟨A',c',e,h1,h2,h3⟩:=h;injection e with e1 e2 e3;subst e1;subst e2;subst e3;refine ⟨A,c-k,by rw [List.length_drop],by rw [List.length_drop];omega,by omega,fun i p hp => ?_⟩;rw [List.getElem?_drop] at hp;have hi:=(zA4.1 hp).1;obtain ⟨g',o',e,c0,c1,c2⟩:=h3 _ p hp;injection e with e;injection e with e4 e5;subst e4;subst e5;refine ⟨g,o+k*3,hA (by omega),?_,?_,?_⟩
 ·rw [show o+k*3+i*3=o+(k+i)*3 by omega];exact c0
 ·rw [show o+k*3+i*3=o+(k+i)*3 by omega];exact c1
 ·rw [show o+k*3+i*3=o+(k+i)*3 by omega];exact c2
def FrN (w:World) (g B0 k:Nat):Prop:=∀ i,i<k -> ∃ u t,w.cell? ⟨g,i*3+1,none⟩=some u/\w.cell? ⟨g,i*3+2,none⟩=some t/\zE3 B0 u/\zE3 B0 t
theorem FrN.below {w w':World} {g B0 k:Nat} (h:FrN w g B0 k) (hb:Below w.heap.size w w'):FrN w' g B0 k:=fun i hi=>by
 obtain ⟨u,t,h1,h2,h3⟩:=h i hi;exact ⟨u,t,(hb.cell (World.block_lt_of_cell? _ _ h1)).trans h1,(hb.cell (World.block_lt_of_cell? _ _ h2)).trans h2,h3⟩
theorem FrN.grown {w w':World} {g g2 B0 k:Nat} (h:FrN w g B0 k) (hg:w.grownBy w' (some g2)) (hne:g≠g2):FrN w' g B0 k:=fun i hi=>by
 obtain ⟨u,t,h1,h2,h3⟩:=h i hi;have e:some g≠some g2:=fun e=>hne (by injection e);exact ⟨u,t,hg.cell h1 e,hg.cell h2 e,h3⟩
theorem FrN.mono {w:World} {g B0 B1 k:Nat} (h:FrN w g B0 k) (hB:B1<=B0):FrN w g B1 k:=fun i hi=>by
 obtain ⟨u,t,h1,h2,h3,h4⟩:=h i hi;exact ⟨u,t,h1,h2,h3.mono hB,h4.mono hB⟩
def Band (w w':World) (a b:Nat):Prop:=∀ x,a<=x->x<b->w'.heap[x]?=w.heap[x]?
theorem qU6 {w w':World} {a:Addr} (h:w'.heap[a.block]?=w.heap[a.block]?):w'.cell? a=w.cell? a:=by
 unfold World.cell?;rw [h]
theorem Band.far {w:World} {a:Nat} {k:IntKind} {u v:Value} {l:List Nat} (hs:IsS w k u l) (hF:zE3 a u) (hv:∀ g,v.ownBlock=some g->g<a\/w.heap.size<=g):Far v u:=by
 intro ad n c e hn e2;obtain ⟨A,c',e',h1,h2,h3⟩:=hs;rw [e] at e';injection e' with e3 e4 e5;subst e3;have hl:0<l.length:=by omega
 obtain ⟨ad',e6,hc⟩:=h3 0 _ (zA3 hl);injection e6 with e6;subst e6;have hlt:=World.block_lt_of_cell? w _ hc;rw [Go.ChangeShapes.block_add] at hlt
 have:=hF ad n c e
 have:=hv _ e2.symm
 omega
def zN6 (T:List (List Rat)) (n k:Nat):List (List Rat):=(T.take k).map (fun r=>r.drop n) ++ T.drop k
theorem cutT_at {T:List (List Rat)} {n k:Nat} (hk:k<=T.length):(zN6 T n k)[k]?=T[k]?:=by
 unfold zN6;have hl:((T.take k).map fun r=>r.drop n).length=k:=by rw [zA9,zB2];omega
 rw [List.getElem?_append_right (by omega),hl,Nat.sub_self,List.getElem?_drop,Nat.add_zero]
theorem jF5 {T:List (List Rat)} {n k:Nat} {r:List Rat} (hr:T[k]?=some r):(zN6 T n k).set k (r.drop n)=zN6 T n (k+1):=by
 have hk:k<T.length:=(zA4.1 hr).1;unfold zN6;have hl:((T.take k).map fun r=>r.drop n).length=k:=by rw [zA9,zB2];omega
 have hd:T.drop k=r :: T.drop (k+1):=by
  rw [List.drop_eq_getElem_cons hk];rw [zA3 hk] at hr;injection hr with hr;rw [hr]
 rw [List.set_append_right _ _ (by omega),hl,Nat.sub_self,hd,zA2,List.take_add_one,hr];simp
theorem yJ9 {T:List (List Rat)} {n k:Nat} (h:T.length<=k):zN6 T n k=T.map fun r=>r.drop n:=by
 unfold zN6;rw [zA7 h,List.drop_eq_nil_of_le h,List.append_nil]
theorem yK (T:List (List Rat)) (n:Nat) {k:Nat} (hk:k<=T.length):(zN6 T n k).length=T.length:=by
 unfold zN6;rw [zA8,zA9,zB2,List.length_drop];omega
theorem zM8.heap {w w':World} {g o n c:Nat} {ps:List Elt} (h:zM8 w (.slice (some ⟨g,o,none⟩) n c) ps) (hb:w'.heap[g]?=w.heap[g]?):zM8 w' (.slice (some ⟨g,o,none⟩) n c) ps:=by
 obtain ⟨A,c',e,h1,h2,h3⟩:=h;refine ⟨A,c',e,h1,h2,fun i p hp => ?_⟩;obtain ⟨g',o',e2,c0,c1,c2⟩:=h3 i p hp
 have hg:g=g':=by
  injection e with e3;rw [<- e3] at e2;injection e2 with e2;injection e2
 subst hg;exact ⟨g,o',e2,(qU6 hb).trans c0,(qU6 hb).trans c1,(qU6 hb).trans c2⟩
theorem jF6 {n:Nat} {p:Nat->Nat} (hr:∀ i j,i<j->j<n->p i<p j) (h:p (n-1)=n-1) (hn:0<n):∀ i,i<n->p i=i:=by
  have a1:∀ i,i<n->i<=p i:=by
    intro i
    induction i with
    | zero=>intro _;omega
    | succ i ih =>
      intro hi;have h1:=ih (by omega);have h2:=hr i (i+1) (by omega) hi;omega
  have a2:∀ d,d<=n-1->p (n-1-d)<=n-1-d:=by
    intro d
    induction d with
    | zero=>intro _;rw [Nat.sub_zero,h];exact zB4 _
    | succ d ih =>
      intro hd;have h1:=ih (by omega);have h2:=hr (n-1-(d+1)) (n-1-d) (by omega) (by omega);omega
  intro i hi;have h1:=a1 i hi;have h2:=a2 (n-1-i) (by omega);rw [show n-1-(n-1-i)=i by omega] at h2;omega
def yK0 (A B:List (List Rat)) (L:Nat) (w:World) (e:Ending) (w':World):Prop:=Below w.heap.size w w'/\((zC8 A.length (zC0 A)≠0 /\ ∃ V X,e=.returned (.tuple #[V,.int .i64 0])/\SlT .u64 4294967296 w' V X/\SolQ A B X/\zH6 X L)\/(zC8 A.length (zC0 A)=0/\e=.returned (.tuple #[.slice none 0 0,.int .i64 7])))
structure StpIn (A B:List (List Rat)) (n m S:Nat):Prop where
 la:A.length=n
 sa:shp A n n
 sb:shp B n m
 wb:zD2 B=m
 wj:zD2 (zD9 A B)=n+m\/n=0
 ok:qG8 (zD9 A B) S
theorem jF7 (a0:Value) (A B:List (List Rat)) (n m S:Nat) (w:World) (h0:SlT .u64 4294967296 w a0 (zD9 A B)) (hm:zI3 (zD9 A B)) (hc:Hid (StpIn A B n m S)) :
    Calls prog 34 #[a0,.int .i64 (n:Int)] w (yK0 A B 2450 w):=by
  obtain ⟨T,hT⟩:∃ T,T=zD9 A B:=⟨_,rfl⟩;have CR:=jE3 a0 (zD9 A B) S w h0 hc.out.ok;have HJ:Hid (shp (zD9 A B) n (n+m)):=zR3 hc.out.sa hc.out.sb;obtain ⟨C,hC⟩:∃ C,C=zD2 (zD9 A B):=⟨_,rfl⟩;have hln:(zD9 A B).length=n:=HJ.out.1;have HC:Hid (C=n+m\/n=0):=by show _\/_;rw [hC];exact hc.out.wj
  have hn5:n<=5:=by rw [<- hln];exact hc.out.ok.1
  have hCw:C<=200:=by rw [hC];exact hm.2.1
  have HOK:Hid ((S+1)*2^(n-1)*2^(n-1)<=2450):=by
    have h:=hc.out.ok.2.2.2.2.2;rw [hln] at h;exact h
  rw [hln,<- hC] at CR;have HM:=hQ9 hm;clear hC hln hm hT
  go_enter func34,ntmps34;go_wp2_with fail
  refine CR.mono ?_;rintro e w2 (⟨-,g,v,T6,us6,ps,rfl,hR⟩|⟨hm2,_⟩)
  · obtain ⟨sh, ech, red, ker, len, tab, piv, bel, lo⟩ := hR;obtain ⟨A6,c6,e6⟩:=zD6.slice piv.1;rw [zS7] at e6;subst e6;have hpn : ps.length <= n:=ech.le;have HSH:=hQ9 sh;have HE:=hQ9 (zA ech (zA red ker))
    have HL:Hid (zH6 T6 2450):=by
      obtain ⟨S2,r2,hS2⟩:=len;have h1:=qU0 (S:=S) (show min ps.length (n-1)<=n-1 by omega);have h2:(S+1)*2^(min ps.length (n-1))*2^(ps.length-1)<=(S+1)*2^(n-1)*2^(n-1):=Nat.mul_le_mul h1 (Nat.pow_le_pow_right (by omega) (by omega));have h3:=HOK.out;exact r2.len.mono (by omega)
    have pvs:=piv.pvs tab.1 (by decide);have HB:=hQ9 bel;clear len bel
    have HNO:Hid ((∃ j,j<n /\ ∀ i,i<ps.length->pv ps i≠j)->zC8 A.length (zC0 A)=0):=by
      rintro ⟨j,hj,hf⟩
      have hCm:C=n+m:=by
        rcases HC.out with h | h
        · exact h
        · omega
      subst hCm;rw [hc.out.la];have hK2:zH2 n (n+m) (zO7 n (zC0 A) (zC0 B)) (zC0 T6):=(zZ fun i j hi hj=>(qN0 hc.out.sa hc.out.sb hi).symm).trans ker;have h1:=qU4 (Nat.le_add_right n m) ech red hK2 ⟨j,hj,hf⟩;rw [<- h1];exact zK7 n fun i j hi hj=>by unfold zO7;rw [if_pos hj]
    have HYES:Hid ((∀ j,j<n -> ∃ i,i<ps.length/\pv ps i=j)->zC8 A.length (zC0 A)≠0/\SolQ A B (T6.map fun r=>r.drop n)):=by
      intro h;rcases Nat.eq_zero_or_pos n with e0 | hn0
      · subst e0;have hA:A=[]:=List.length_eq_zero_iff.1 hc.out.la;have hT:T6=[]:=List.length_eq_zero_iff.1 sh.1;subst hA;subst hT;refine ⟨by decide,⟨rfl,fun r hr=>by cases hr⟩,fun i j hi => ?_⟩;exact absurd hi (Nat.not_lt_zero _)
      · have hCm:C=n+m:=by
          rcases HC.out with h | h
          · exact h
          · omega
        subst hCm;have hK2:zH2 n (n+m) (zO7 n (zC0 A) (zC0 B)) (zC0 T6):=(zZ fun i j hi hj=>(qN0 hc.out.sa hc.out.sb hi).symm).trans ker;obtain ⟨_,_,_,h4⟩:=qU5 (Nat.le_add_right n m) ech red hK2 h;refine ⟨?_,yJ3 hc.out.sa hc.out.sb hc.out.wb sh ech red ker h⟩;rw [hc.out.la];intro e;apply h4;rw [<- e];exact zK7 n fun i j hi hj=>by unfold zO7;rw [if_pos hj]
    have HRISE:Hid (∀ i j,i<j->j<ps.length->pv ps i<pv ps j):=ech.rise;clear sh ech red ker piv;by_cases hk2:0<n/\(ps.length<n\/pv ps (n-1)≠n-1)
    · have HZ:Hid (zC8 A.length (zC0 A)=0):=HNO.out (Classical.byContradiction fun hno=>by
        have hall:∀ j,j<n -> ∃ i,i<ps.length/\pv ps i=j:=fun j hj=>Classical.byContradiction fun h2=>hno ⟨j,hj,fun i hi e=>h2 ⟨i,hi,e⟩⟩;obtain ⟨h3,h4⟩:=qG9 HRISE.out n hall;rcases hk2.2 with h5 | h5
        · omega
        · exact h5 (h4 (n-1) (by omega)))
      obtain ⟨hn0,hk3⟩:=hk2;have hn0i:(0:Int)<(n:Int):=by omega
      clear HNO HYES;by_cases hk4:ps.length<n
      · clear hk3 pvs;go_wp2;go_ret2;exact ⟨HB.out,.inr ⟨HZ.out,rfl⟩⟩
      · have hpe:ps.length=n:=by omega
        have hk5:pv ps (n-1)≠n-1:=by
          rcases hk3 with h | h
          · exact absurd h hk4
          · exact h
        obtain ⟨ad,rfl,-,ec⟩:=pvs (n-1) (by omega);have hne:(((pv ps (n-1):Nat):Int) == (n:Int)-1)=false:=by rw [beq_eq_false_iff_ne];omega
        have hcast:(((n-1:Nat):Nat):Int)=(n:Int)-1:=by omega
        have hix:((n:Int)-1).toNat=n-1:=by omega
        clear hk3 pvs hk5;go_wp2;go_ret2;exact ⟨HB.out,.inr ⟨HZ.out,rfl⟩⟩
    · have HALL:Hid (∀ j,j<n -> ∃ i,i<ps.length/\pv ps i=j):=fun j hj=>by
        have h1:¬ ps.length<n:=fun h=>hk2 ⟨by omega,.inl h⟩;have h2:pv ps (n-1)=n-1:=Classical.byContradiction fun h=>hk2 ⟨by omega,.inr h⟩;exact ⟨j,by omega,jF6 (fun i j hi hj=>HRISE.out i j hi (by omega)) h2 (by omega) j hj⟩
      have HSOL:=hQ9 (HYES.out HALL.out);have HT6:Hid (T6.length=n):=HSH.out.1
      have HCC:Hid (0<n->C=n+m):=fun h=>by
        rcases HC.out with h2 | h2
        · exact h2
        · omega
      clear HNO HYES HALL;rcases Nat.eq_zero_or_pos n with hn0 | hn0
      · have hni:¬ (0:Int)<(n:Int):=by omega
        clear hk2 pvs hn0;go_wp2
        go_loopw [36] (fun v36 wr => ∃ (k:Nat) (us7:List Value),k<=n/\zE4 .u64 4294967296 wr g 44 us7 (zN6 T6 n k)/\Hid (Below w.heap.size w wr)/\v36=.int .i64 (k:Int)) (fun v36 _=>n-(intOf v36).toNat)
        case atStart=>exact ⟨0,us6,by omega,tab,HB,rfl⟩
        case round =>
          clear tab HB;obtain ⟨k,us7,hk,TS,HB7,rfl⟩:=hrel;by_cases hlt:k<n
          · exfalso;omega
          · have hke:k=n:=by omega
            have hS:SlT .u64 4294967296 wr (.slice (some ⟨g,0,none⟩) n n) (T6.map fun r=>r.drop n):=by
              have h:=TS.slT (show (zN6 T6 n k).length=n by rw [yK T6 n (by have:=HT6.out;omega)];exact HT6.out) (by omega);rwa [yJ9 (by have:=HT6.out;omega)] at h
            have HV:=hQ9 hS;clear hS TS hke;go_wp2;go_ret2;refine ⟨HB7.out,.inl ⟨HSOL.out.1,_,_,rfl,HV.out,HSOL.out.2,?_⟩⟩;intro r hr x hx;obtain ⟨y,hy,rfl⟩:=List.mem_map.1 hr;exact HL.out y hy x (List.mem_of_mem_drop hx)
      · have hpe:ps.length=n:=Nat.le_antisymm hpn (Nat.le_of_not_lt fun h=>hk2 ⟨hn0,.inl h⟩);have hk5:pv ps (n-1)=n-1:=Classical.byContradiction fun h=>hk2 ⟨hn0,.inr h⟩;obtain ⟨ad,rfl,-,ec⟩:=pvs (n-1) (by omega);rw [hk5] at ec;have hcast:(((n-1:Nat):Nat):Int)=(n:Int)-1:=by omega
        have hix:((n:Int)-1).toNat=n-1:=by omega
        have hn0i:(0:Int)<(n:Int):=by omega
        have hpni:¬ ((ps.length:Nat):Int)<(n:Int):=by omega
        rw [hcast] at ec;have hbq:(((n:Int)-1 == (n:Int)-1))=true:=beq_self_eq_true _;clear hk2 pvs hk5;go_wp2
        go_loopw [36] (fun v36 wr => ∃ (k:Nat) (us7:List Value),k<=n/\zE4 .u64 4294967296 wr g 44 us7 (zN6 T6 n k)/\Hid (Below w.heap.size w wr)/\v36=.int .i64 (k:Int)) (fun v36 _=>n-(intOf v36).toNat)
        case atStart=>exact ⟨0,us6,by omega,tab,HB,rfl⟩
        case round =>
          clear tab HB;obtain ⟨k,us7,hk,TS,HB7,rfl⟩:=hrel;by_cases hlt:k<n
          · obtain ⟨r,hr,hrl⟩:=zH7 HSH.out hlt;have hr2:(zN6 T6 n k)[k]?=some r:=by rw [cutT_at (by have:=HT6.out;omega)];exact hr
            have HNX:Hid ((zN6 T6 n k).set k (r.drop n)=zN6 T6 n (k+1)):=jF5 hr;have hrl2:r.length=n+m:=by rw [hrl];exact HCC.out (by omega)
            obtain ⟨Ar,cr,hur,ecr,sr⟩:=TS.at_ hr2;have frr:=TS.frozenAt k;obtain ⟨gr,or,cc,esl,-,hrc,hcm⟩:=sr.place (fun e=>by rw [e] at hrl2;simp at hrl2;omega);injection esl with esl1 _ esl3;subst esl1;subst esl3;obtain ⟨psi,hpm,hVF,hIE⟩:=sr;have hpl:psi.length=r.length:=by rw [<- hpm,zA9]
            obtain ⟨A2,hA2⟩:∃ A2:Option Addr,A2=if cr=n then some ⟨gr,or,none⟩ else some ⟨gr,or+n*3,none⟩:=⟨_,rfl⟩
            have VFrom:=hVF.cutFrom (k:=n) (A:=A2) (by omega) (fun h=>by rw [hA2,if_neg (by omega)]);have sR:SlF .u64 4294967296 wr (.slice A2 (r.length-n) (cr-n)) (r.drop n):=⟨psi.drop n,by rw [List.map_drop,hpm],VFrom,fun p hp=>hIE p (List.mem_of_mem_drop hp)⟩;have hjc2:¬ cr<n:=by omega
            have hjc3:¬ r.length<n:=by omega
            have hA3:=hA2.symm;have TS2:=TS.stored k sR;rw [HNX.out] at TS2;have HB8:Hid (Below w.heap.size w _):=HB7.out.setCell (p:=⟨g,k,none⟩) lo (.slice A2 (r.length-n) (cr-n));clear hr hr2 hrl hpm hVF hIE hpl VFrom sR hA2 hur TS HB7 hrl2;go_wp2;go_roundw;case rel=>exact ⟨k+1,_,by omega,TS2,HB8,by go_num⟩
            case measure=>simp [intOf];omega
          · have hke:k=n:=by omega
            have hS:SlT .u64 4294967296 wr (.slice (some ⟨g,0,none⟩) n n) (T6.map fun r=>r.drop n):=by
              have h:=TS.slT (show (zN6 T6 n k).length=n by rw [yK T6 n (by have:=HT6.out;omega)];exact HT6.out) (by omega);rwa [yJ9 (by have:=HT6.out;omega)] at h
            have HV:=hQ9 hS;clear hS TS hke;go_wp2;go_ret2;refine ⟨HB7.out,.inl ⟨HSOL.out.1,_,_,rfl,HV.out,HSOL.out.2,?_⟩⟩;intro r hr x hx;obtain ⟨y,hy,rfl⟩:=List.mem_map.1 hr;exact HL.out y hy x (List.mem_of_mem_drop hx)
  · exact absurd HM.out hm2
end Go.Proofs.YtagaabooccnamaaGreat.rat
namespace Go.Proofs.YtagaabooccnamaaGreat.nat
open Go.RowKit num mem limb
theorem jF8 (v u:Value) (x y:Nat) (w:World) (h:IsS w .u64 v (digs 4294967296 x)) (h':IsS w .u64 u (digs 4294967296 y)) (hl:(digs 4294967296 x).length<=90000) (hl':(digs 4294967296 y).length<=90000) (hp:0<x) :
  Calls prog 54 #[v,u] w (zD7 .u64 (digs 4294967296 (Nat.lcm x y)) w):=by
 obtain ⟨G,hG⟩:∃ G,G=Nat.gcd x y:=⟨_,rfl⟩;have HE:Hid (zO2 [x,y]=G):=by show _=_;rw [hG];simp [zO2]
 have hd:G∣x:=by rw [hG];exact Nat.gcd_dvd_left x y
 have hG0:0<G:=by rw [hG];exact Nat.gcd_pos_of_pos_left _ hp
 have hm:x % G=0:=Nat.mod_eq_zero_of_dvd hd;have hlG:(digs 4294967296 G).length<=90000:=zB5 (zG5 (by omega) (Nat.le_of_dvd hp hd)) hl;obtain ⟨q,hq⟩:∃ q,q=x / G:=⟨_,rfl⟩
 have hlq:(digs 4294967296 q).length<=100000:=by
  rw [hq];exact zB5 (zG5 (by omega) (Nat.div_le_self x G)) (by omega)
 have hz:Nat.lcm x y=q*y:=by
  rw [hq];show x*y / Nat.gcd x y=x / G*y
  rw [<- hG,Nat.mul_comm x y,Nat.mul_div_assoc y hd,Nat.mul_comm]
 obtain ⟨Z,hZ⟩:∃ Z,Z=Nat.lcm x y:=⟨_,rfl⟩;rw [<- hZ] at hz |-;have HG0:=hQ9 hG0;have HM:=hQ9 hm;have HQ:=hQ9 hq;have HZ:=hQ9 hz;clear hG hd hG0 hm hq hz hZ hp;obtain ⟨A1,c1,rfl,_⟩:=id h;obtain ⟨A2,c2,rfl,_⟩:=id h'
 go_enter func54,ntmps54;go_wp2_with fail
 have hb:=zD1 (zB4 w.heap.size) (.cells #[.slice A1 (digs 4294967296 x).length c1,.slice A2 (digs 4294967296 y).length c2] 50);have ha:=h.below hb;have ha':=h'.below hb;refine (qR0 _ [_,_] [x,y] _ (zR8 w 50 [_,_]) (qI6 ha ha') (by simp) (by intro q hq;simp at hq;rcases hq with rfl|rfl;exact hl;exact hl')).mono ?_;rintro e w1 ⟨v1,rfl,k1,f1,b1⟩;have b2:=hb.trans (b1.mono hb.size);have ha1:=ha.below b1;have ha1':=ha'.below b1;rw [HE.out] at k1;obtain ⟨A3,c3,rfl,_⟩:=id k1;clear ha ha' hb b1;go_wp2_with fail
 refine (qA6 _ _ x G _ ha1 k1 hl hlG HG0.out q HM.out HQ.out).mono ?_;rintro e w2 ⟨v2,rfl,k2,f2,b3⟩;obtain ⟨A4,c4,rfl,_⟩:=id k2;have b4:=b2.trans (b3.mono b2.size);have ha2':=ha1'.below b3;clear ha1 ha1' k1 b3 b2;go_wp2_with fail
 refine (mul_any _ _ q y _ k2 ha2' hlq (by omega) Z HZ.out).mono ?_;rintro e w3 ⟨v3,rfl,k3,f3,b5⟩;go_wp2;go_ret;exact ⟨_,rfl,k3,f3.mono b4.size,b4.trans (b5.mono b4.size)⟩
end Go.Proofs.YtagaabooccnamaaGreat.nat
namespace Go.Proofs.YtagaabooccnamaaGreat.rat
open Go.RowKit num mem nat txt str flow whl
structure BrQ (n C k:Nat) (a:Nat->Nat->Int) (R:Nat->Nat->Rat) (d:Rat):Prop where
 le:k<=n
 wide:n<=C
 ne:d≠0
 det:zC8 k (qF a)=d
 rel:∀ i j,i<n->k<=j->j<C->d*(a i j:Rat)=zC5 k (fun c=>(a i c:Rat)*R c j)+(if k<=i then R i j else 0)
theorem BrQ.start {n C:Nat} (a:Nat->Nat->Int) (h:n<=C):BrQ n C 0 a (qF a) 1 :=
 ⟨by omega, h, by decide, rfl, fun i j _ _ _ => by
  rw [if_pos (Nat.zero_le i)];show 1*(a i j:Rat)=0+(a i j:Rat)
  grind⟩
theorem qN2 (n:Nat) (d:Rat) (f g:Nat->Rat):zC5 n (fun c=>f c*(g c*d⁻¹))=zC5 n (fun c=>f c*g c)*d⁻¹:=by
 rw [show zC5 n (fun c=>f c*g c)*d⁻¹ = d⁻¹ * zC5 n (fun c=>f c*g c) by grind,<- zL4];exact zH1 fun c _=>by grind
theorem BrQ.minor {n C k:Nat} {a:Nat->Nat->Int} {R:Nat->Nat->Rat} {d:Rat} (h:BrQ n C k a R d) {i j:Nat} (hi:i<n) (hk:k<=i) (hj:k<=j) (hC:j<C) :
  zC8 (k+1) (fun r c=>qF a (if r<k then r else i) (if c<k then c else j))=R i j:=by
 have hd:=Rat.mul_inv_cancel _ h.ne;obtain ⟨N0,hN0⟩:∃ N0:Nat->Nat->Rat,N0=fun r c=>if c<k then qF a (if r<k then r else i) c else if r=k then 1 else 0:=⟨_,rfl⟩
 obtain ⟨v,hv⟩:∃ v:Nat->Rat,v=fun l=>if l<k then R l j*d⁻¹ else R i j*d⁻¹:=⟨_,rfl⟩
 have e1:zC8 (k+1) (fun r c=>qF a (if r<k then r else i) (if c<k then c else j))=zC8 (k+1) (zH8 N0 k (fun r=>zC5 (k+1) (fun l=>N0 r l*v l))):=by
  refine zK7 _ fun r c hr hc => ?_;unfold zH8;by_cases ec:c=k
  ·subst ec;rw [if_pos rfl,if_neg (Nat.lt_irrefl c)];show _=zC5 c (fun l=>N0 r l*v l)+N0 r c*v c
   have es:zC5 c (fun l=>N0 r l*v l)=zC5 c (fun l=>(a (if r<c then r else i) l:Rat)*R l j)*d⁻¹:=by
    rw [<- qN2];refine zH1 fun l hl => ?_;rw [hN0,hv];simp only [if_pos hl]
    rfl
   rw [es]
   have ev:N0 r c*v c=if r=c then R i j*d⁻¹ else 0:=by
    rw [hN0,hv];simp only [if_neg (Nat.lt_irrefl c)]
    split<;>grind
   rw [ev];by_cases er:r<c
   ·have hr2:=h.rel r j (by have:=h.le;omega) hj hC;rw [if_neg (by omega)] at hr2;rw [if_pos er,if_neg (by omega)];show (a r j:Rat)=_
    have e2:zC5 c (fun l=>(a r l:Rat)*R l j)=d*(a r j:Rat):=by grind
    rw [e2]
    grind
   ·obtain rfl:r=c:=by omega
    have hr2:=h.rel i j hi hj hC;rw [if_pos hk] at hr2;rw [if_neg er,if_pos rfl];show (a i j:Rat)=_
    grind
  ·rw [if_neg ec,hN0];simp only [if_pos (show c<k by omega)]
 rw [e1,zZ2 _ _ _ _ (by omega),jE7 k N0 (fun r hr=>by rw [hN0];simp only [if_neg (Nat.lt_irrefl k),if_neg (show ¬ r=k by omega)])]
 have e2:zC8 k N0=d:=by
  rw [<- h.det];refine zK7 _ fun r c hr hc => ?_;rw [hN0];simp only [if_pos hc,if_pos hr]
 have e3:N0 k k=1:=by rw [hN0];simp only [if_neg (Nat.lt_irrefl k),if_true]
 have e4:v k=R i j*d⁻¹:=by rw [hv];simp only [if_neg (Nat.lt_irrefl k)]
 rw [e2,e3,e4]
 grind
theorem BrQ.cramer {n C k:Nat} {a:Nat->Nat->Int} {R:Nat->Nat->Rat} {d:Rat} (h:BrQ n C k a R d) {i j:Nat} (hi:i<k) (hj:k<=j) (hC:j<C) :
  zC8 k (zH8 (qF a) i (fun r=>qF a r j))=R i j:=by
 have hd:=Rat.mul_inv_cancel _ h.ne
 have e1:zC8 k (zH8 (qF a) i (fun r=>qF a r j))=zC8 k (zH8 (qF a) i (fun r=>zC5 k (fun l=>qF a r l*(R l j*d⁻¹)))):=by
  refine zK7 _ fun r c hr hc => ?_;unfold zH8;by_cases ec:c=i
  ·rw [if_pos ec,if_pos ec];show qF a r j=zC5 k (fun l=>qF a r l*(R l j*d⁻¹))
   rw [qN2];have hr2:=h.rel r j (by have:=h.le;omega) hj hC;rw [if_neg (by omega)] at hr2
   have e2:zC5 k (fun c=>qF a r c*R c j)=d*(a r j:Rat):=by
    have:zC5 k (fun c=>qF a r c*R c j)=zC5 k (fun c=>(a r c:Rat)*R c j):=rfl;rw [this];grind
   rw [e2];show (a r j:Rat)=_
   grind
  ·rw [if_neg ec,if_neg ec]
 rw [e1,zZ2 k (qF a) i (fun l=>R l j*d⁻¹) hi,h.det]
 grind
theorem BrQ.int {n C k:Nat} {a:Nat->Nat->Int} {R:Nat->Nat->Rat} {d:Rat} (h:BrQ n C k a R d) {i j:Nat} (hi:i<n) (hj:k<=j) (hC:j<C):∃ z:Int,R i j=(z:Rat):=by
 by_cases hk:k<=i
 ·rw [<- h.minor hi hk hj hC];exact qU2 _ _ fun r c _ _=>⟨_,rfl⟩
 ·rw [<- h.cramer (by omega) hj hC];refine qU2 _ _ fun r c _ _ => ?_;unfold zH8
  split
  ·exact ⟨_,rfl⟩
  ·exact ⟨_,rfl⟩
def stepQ (k:Nat) (R:Nat->Nat->Rat) (d:Rat):Nat->Nat->Rat:=fun i j=>if i=k then R k j else (R i j*R k k-R i k*R k j)*d⁻¹
theorem BrQ.step {n C k:Nat} {a:Nat->Nat->Int} {R:Nat->Nat->Rat} {d:Rat} (h:BrQ n C k a R d) (hk:k<n) (hp:R k k≠0):BrQ n C (k+1) a (stepQ k R d) (R k k):=by
 have hd:=Rat.mul_inv_cancel _ h.ne;have hw:=h.wide;refine ⟨hk,h.wide,hp,?_,fun i j hi hj hC => ?_⟩
 ·rw [<- h.minor hk (zB4 k) (zB4 k) (by omega)];refine zK7 _ fun r c hr hc => ?_
  by_cases e1:r<k<;>by_cases e2:c<k
  ·rw [if_pos e1,if_pos e2]
  ·rw [if_pos e1,if_neg e2,show c=k by omega]
  ·rw [if_neg e1,if_pos e2,show r=k by omega]
  ·rw [if_neg e1,if_neg e2,show r=k by omega,show c=k by omega]
 ·have r1:=h.rel i j hi (by omega) hC;have r2:=h.rel i k hi (zB4 k) (by omega)
  have e1:zC5 k (fun c=>(a i c:Rat)*stepQ k R d c j)=(R k k*zC5 k (fun c=>(a i c:Rat)*R c j)-R k j*zC5 k (fun c=>(a i c:Rat)*R c k))*d⁻¹:=by
   have e0:zC5 k (fun c=>(a i c:Rat)*stepQ k R d c j)=zC5 k (fun c=>R k k*d⁻¹ * ((a i c:Rat)*R c j)+(- R k j*d⁻¹)*((a i c:Rat)*R c k)):=zH1 fun c hc=>by
    unfold stepQ;rw [if_neg (show ¬ c=k by omega)]
    grind
   rw [e0,zW2,zL4,zL4]
   grind
  have e2:zC5 (k+1) (fun c=>(a i c:Rat)*stepQ k R d c j)=zC5 k (fun c=>(a i c:Rat)*stepQ k R d c j)+(a i k:Rat)*R k j:=by
   show _+(a i k:Rat)*stepQ k R d k j=_
   unfold stepQ;rw [if_pos rfl]
  rw [e2,e1];obtain ⟨S,hS⟩:∃ S,S=zC5 k (fun c=>(a i c:Rat)*R c j):=⟨_,rfl⟩;obtain ⟨T,hT⟩:∃ T,T=zC5 k (fun c=>(a i c:Rat)*R c k):=⟨_,rfl⟩;rw [<- hS] at r1 |-;rw [<- hT] at r2 |-;by_cases k1:i<k
  ·rw [if_neg (by omega)] at r1 r2 |-;have:S=d*(a i j:Rat):=by grind
   have:T=d*(a i k:Rat):=by grind
   grind
  ·by_cases k2:i=k
   ·subst k2;rw [if_pos (zB4 i)] at r1 r2;rw [if_neg (by omega)];have:S=d*(a i j:Rat)-R i j:=by grind
    have:T=d*(a i i:Rat)-R i i:=by grind
    grind
   ·rw [if_pos (by omega)] at r1 r2 |-;have:S=d*(a i j:Rat)-R i j:=by grind
    have:T=d*(a i k:Rat)-R i k:=by grind
    unfold stepQ;rw [if_neg k2]
    grind
theorem BrQ.swap {n C k f:Nat} {a:Nat->Nat->Int} {R:Nat->Nat->Rat} {d:Rat} (h:BrQ n C k a R d) (hf:k<=f) (hn:f<n):BrQ n C k (fun i=>if i=k then a f else if i=f then a k else a i) (zE9 R k f) d:=by
 refine ⟨h.le,h.wide,h.ne,?_,fun i j hi hj hC => ?_⟩
 ·rw [<- h.det];refine zK7 _ fun r c hr hc => ?_;have e:(if r=k then a f else if r=f then a k else a r)=a r:=by rw [if_neg (show ¬ r=k by omega),if_neg (show ¬ r=f by omega)]
  show (((if r=k then a f else if r=f then a k else a r) c:Int):Rat)=(a r c:Rat)
  rw [e]
 ·have es:∀ i',zC5 k (fun c=>(a i' c:Rat)*zE9 R k f c j)=zC5 k (fun c=>(a i' c:Rat)*R c j):=fun i'=>zH1 fun c hc=>by
   unfold zE9;rw [if_neg (show ¬ c=k by omega),if_neg (show ¬ c=f by omega)]
  by_cases e1:i=k
  ·subst e1
   have:=h.rel f j hn hj hC
   rw [if_pos hf] at this;simp only [if_true,es];rw [if_pos (zB4 i),this];unfold zE9;rw [if_pos rfl]
  ·by_cases e2:i=f
   ·subst e2
    have:=h.rel k j (by omega) hj hC
    rw [if_pos (zB4 k)] at this;simp only [if_neg e1,if_true,es];rw [if_pos hf,this];unfold zE9;rw [if_neg e1,if_pos rfl]
   ·have:=h.rel i j hi hj hC
    simp only [if_neg e1,if_neg e2,es];rw [this];unfold zE9;rw [if_neg e1,if_neg e2]
theorem BrQ.none {n C k:Nat} {a:Nat->Nat->Int} {R:Nat->Nat->Rat} {d:Rat} (h:BrQ n C k a R d) (hk:k<n) (h0:∀ i,k<=i->i<n->R i k=0):zC8 n (qF a)=0:=by
  have hd:=Rat.mul_inv_cancel _ h.ne;have hw:=h.wide;have e:=zZ2 n (qF a) k (fun l=>if l<k then R l k*d⁻¹ else 0) hk;simp only [if_neg (Nat.lt_irrefl k)] at e;rw [zK7 n (M':=qF a) (fun i j hi hj => ?_)] at e
  · rw [e];grind
  · unfold zH8;by_cases ej:j=k
    · subst ej;rw [if_pos rfl];have r1:=h.rel i j hi (zB4 j) (by omega)
      have e1:∀ m,j<=m->zC5 m (fun l=>qF a i l*(if l<j then R l j*d⁻¹ else 0))=zC5 j (fun l=>(a i l:Rat)*R l j)*d⁻¹:=by
        intro m hm
        induction m with
        | zero => obtain rfl : j = 0 := by omega
                  rw [<- qN2];rfl
        | succ m ih =>
          by_cases e2:j<=m
          · show zC5 m _+qF a i m*(if m<j then _ else 0)=_
            rw [ih e2,if_neg (by omega)];grind
          · obtain rfl:j=m+1:=by omega
            rw [<- qN2];exact zH1 fun l hl=>by rw [if_pos hl];rfl
      show zC5 n (fun l=>qF a i l*(if l<j then R l j*d⁻¹ else 0))=qF a i j
      rw [e1 n (by omega)]
      have e3:(if j<=i then R i j else 0)=0:=by
        split
        · exact h0 i (by assumption) hi
        · rfl
      rw [e3] at r1;show _=(a i j:Rat)
      have:zC5 j (fun l=>(a i l:Rat)*R l j)=d*(a i j:Rat):=by grind
      rw [this];grind
    · rw [if_neg ej]
def SlZ (k:IntKind) (B:Nat) (w:World) (v:Value) (zs:List Int):Prop:=∃ A c,v=.slice A zs.length c/\zs.length<=c/\c<=maxLen /\ ∀ (i:Nat) (z:Int),zs[i]?=some z -> ∃ g o u,A=some ⟨g,o,none⟩/\w.cell? ⟨g,o+i*2,none⟩=some (.bool (ngB z))/\w.cell? ⟨g,o+i*2+1,none⟩=some u/\IsS w k u (digs B z.natAbs)
theorem SlZ.below {k:IntKind} {B:Nat} {w w':World} {v:Value} {zs:List Int} (h:SlZ k B w v zs) (hb:Below w.heap.size w w'):SlZ k B w' v zs:=by
 obtain ⟨A,c,e,h1,h2,h3⟩:=h;refine ⟨A,c,e,h1,h2,fun i z hz => ?_⟩;obtain ⟨g,o,u,e2,c0,c1,s⟩:=h3 i z hz;exact ⟨g,o,u,e2,(hb.cell (World.block_lt_of_cell? w _ c0)).trans c0,(hb.cell (World.block_lt_of_cell? w _ c1)).trans c1,s.below hb⟩
theorem SlZ.shape {k:IntKind} {B:Nat} {w:World} {v:Value} {zs:List Int} (h:SlZ k B w v zs):∃ A c,v=.slice A zs.length c/\zs.length<=c/\c<=maxLen:=by
 obtain ⟨A,c,e,h1,h2,_⟩:=h;exact ⟨A,c,e,h1,h2⟩
theorem SlZ.at_ {k:IntKind} {B:Nat} {w:World} {A:Option Addr} {n c:Nat} {zs:List Int} {i:Nat} {z:Int} (h:SlZ k B w (.slice A n c) zs) (hz:zs[i]?=some z):∃ g o u,A=some ⟨g,o,none⟩/\i<n/\w.cell? ⟨g,o+i*2,none⟩=some (.bool (ngB z))/\w.cell? ⟨g,o+i*2+1,none⟩=some u/\IsS w k u (digs B z.natAbs):=by
 obtain ⟨A',c',e,h1,h2,h3⟩:=h;injection e with e1 e2 e3;subst e1;subst e2;subst e3;obtain ⟨g,o,u,e4,c0,c1,s⟩:=h3 i z hz;exact ⟨g,o,u,e4,(zA4.1 hz).1,c0,c1,s⟩
theorem SlZ.at2 {k:IntKind} {B:Nat} {w:World} {g o n c:Nat} {zs:List Int} {i:Nat} {z:Int} (h:SlZ k B w (.slice (some ⟨g,o,none⟩) n c) zs) (hz:zs[i]?=some z):∃ u,i<n/\w.cell? ⟨g,o+i*2,none⟩=some (.bool (ngB z))/\w.cell? ⟨g,o+i*2+1,none⟩=some u/\IsS w k u (digs B z.natAbs):=by
 obtain ⟨g',o',u,hA,h1,h2,h3,h4⟩:=h.at_ hz;injection hA with hA;injection hA with e1 e2;subst e1;subst e2;exact ⟨u,h1,h2,h3,h4⟩
theorem SlZ.place {k:IntKind} {B:Nat} {w:World} {A:Option Addr} {n c:Nat} {zs:List Int} (h:SlZ k B w (.slice A n c) zs) (hne:zs≠[]):∃ g o,A=some ⟨g,o,none⟩/\g<w.heap.size:=by
  cases zs with
  | nil=>exact absurd rfl hne
  | cons z zs =>
    obtain ⟨g,o,u,rfl,_,hc,_⟩:=h.at_ (i:=0) (z:=z) rfl;exact ⟨g,o,rfl,World.block_lt_of_cell? w _ hc⟩
theorem qH0 (k:IntKind) (B:Nat) (w:World) {A:Option Addr} {c:Nat} (hc:c<=maxLen):SlZ k B w (.slice A 0 c) []:=⟨A,c,rfl,Nat.zero_le _,hc,fun i z hz=>by simp at hz⟩
theorem SlZ.take {k:IntKind} {B:Nat} {w:World} {A:Option Addr} {n c:Nat} {zs:List Int} (h:SlZ k B w (.slice A n c) zs) {m:Nat} (hm:m<=zs.length):SlZ k B w (.slice A m c) (zs.take m):=by
 obtain ⟨A',c',e,h1,h2,h3⟩:=h;injection e with e1 e2 e3;subst e1;subst e2;subst e3;have hl:(zs.take m).length=m:=by rw [zB2];omega
 refine ⟨A,c,by rw [hl],by omega,h2,fun i z hz=>h3 i z ?_⟩;rw [List.getElem?_take] at hz
 split at hz
 ·exact hz
 ·cases hz
theorem SlZ.drop {k:IntKind} {B:Nat} {w:World} {g o n c:Nat} {zs:List Int} (h:SlZ k B w (.slice (some ⟨g,o,none⟩) n c) zs) {m:Nat} (hm:m<=zs.length):SlZ k B w (.slice (some ⟨g,o+m*2,none⟩) (n-m) (c-m)) (zs.drop m):=by
 obtain ⟨A',c',e,h1,h2,h3⟩:=h;injection e with e1 e2 e3;subst e1;subst e2;subst e3;refine ⟨_,_,by rw [List.length_drop],by rw [List.length_drop];omega,by omega,fun i z hz => ?_⟩;rw [List.getElem?_drop] at hz;obtain ⟨g',o',u,e4,c0,c1,s⟩:=h3 (m+i) z hz;injection e4 with e4;injection e4 with e5 e6;subst e5;subst e6;refine ⟨g,o+m*2,u,rfl,?_,?_,s⟩
 ·rw [<- c0];congr 2;omega
 ·rw [<- c1];congr 2;omega
theorem zW6 {P:Program} {t e:TypeId} (hu:P.underlying t=some (.slice e)) (hs:(P.info? e).map (·.size)=some 2) {g o n c k:Nat} (hk:k<n) (w:World):(Instr.indexAt t (.slice (some ⟨g,o,none⟩) n c) (.int .i64 (k:Int))).run P w=.ok (.pointer (some ⟨g,o+k*2,none⟩)) w:=by
  cases hq:P.info? e with
  | none=>simp [hq] at hs
  | some inf =>
    have hsz:inf.size=2:=by simpa [hq] using hs
    simp [Instr.indexAt,asIntOf,go_sem,run_underlying hu,sizeOf,typeInfo,hq,hsz,hk]
def zJ9 (w:World) (g n:Nat) (zs:List Int):Prop:=∃ ps:List (Int × Value),ps.length=n/\zs.length<=n/\Blk w g 60 (zF0 ps).toArray/\(∀ p∈ps,∃ A m c,p.2=.slice A m c) /\ ∀ (i:Nat) (z:Int),zs[i]?=some z -> ∃ p,ps[i]?=some p/\p.1=z/\IsS w .u64 p.2 (digs 4294967296 z.natAbs)
theorem zJ9.below {w w':World} {g n:Nat} {zs:List Int} (h:zJ9 w g n zs) (hb:Below w.heap.size w w'):zJ9 w' g n zs:=by
 obtain ⟨ps,h1,h2,h3,h4,h5⟩:=h;refine ⟨ps,h1,h2,h3.below hb,h4,fun i q hq => ?_⟩;obtain ⟨p,k1,k2,k3⟩:=h5 i q hq;exact ⟨p,k1,k2,k3.below hb⟩
theorem zJ9.lt {w:World} {g n:Nat} {zs:List Int} (h:zJ9 w g n zs):g<w.heap.size:=by
 obtain ⟨ps,_,_,h3,_⟩:=h;exact h3.lt
theorem qN3 (ps:List (Int × Value)):(zF0 ps).length=ps.length*2:=by
 induction ps with
 | nil=>rfl
 | cons p ps ih=>show (Value.bool (ngB p.1) :: p.2 :: zF0 ps).length=_;rw [List.length_cons,List.length_cons,ih,List.length_cons];omega
theorem zW7 (p:Int × Value) (ps:List (Int × Value)):zF0 (p :: ps)=.bool (ngB p.1) :: p.2 :: zF0 ps:=rfl
theorem yK1:∀ (ps:List (Int × Value)) (i:Nat) (p:Int × Value),((zF0 ps).set (i*2) (.bool (ngB p.1))).set (i*2+1) p.2=zF0 (ps.set i p)
  | [],i,p=>by simp [zF0]
  | q :: ps, 0, p => by
    rw [zA2,zW7,zW7];simp
  | q :: ps, i + 1, p => by
    have ih:=yK1 ps i p;rw [zA1,zW7,zW7,<- ih,show (i+1)*2=i*2+1+1 from by omega];simp
theorem jF9 {k:IntKind} {ps:List (Int × Value)} (h4:∀ p∈ps,∃ A m c,p.2=.slice A m c):∀ c∈(zF0 ps).toArray,∀ n,c ≠ .int k n:=by
 intro c hc n;obtain ⟨p,hp,hc⟩:=List.mem_flatMap.1 (List.mem_toArray.1 hc);obtain ⟨A,m,d,e1⟩:=h4 p hp;simp only [e1,List.mem_cons,List.not_mem_nil,or_false] at hc;rcases hc with rfl|rfl<;>simp
theorem zJ9.keep {w w':World} {g n:Nat} {zs:List Int} {k:IntKind} {v:Value} {l:List Nat} (h:zJ9 w g n zs) (hg:w.grownBy w' (some g)) (hs:IsS w k v l):IsS w' k v l:=by
 obtain ⟨ps,_,_,h3,h4,_⟩:=h;exact Go.Proofs.YtagaabooccnamaaGreat.flow.off hs h3 (jF9 h4) hg
theorem zJ9.places {w:World} {g n i:Nat} {zs:List Int} (h:zJ9 w g n zs) (hi:i<n):∃ x y,w.cell? ⟨g,0+i*2,none⟩=some x/\w.cell? ⟨g,0+i*2+1,none⟩=some y/\w.frozen? ⟨g,0+i*2,none⟩=false/\w.frozen? ⟨g,0+i*2+1,none⟩=false:=by
 obtain ⟨ps,h1,h2,h3,h4,h5⟩:=h;obtain ⟨f0,f1⟩:=qK6 ps i _ (zA3 (by omega));rw [Nat.zero_add];exact ⟨_,_,by rw [h3.cell,List.getElem?_toArray];exact f0,by rw [h3.cell,List.getElem?_toArray];exact f1,h3.frozen _,h3.frozen _⟩
theorem zJ9.set2 {w:World} {g n:Nat} {zs:List Int} {z:Int} {u:Value} (h:zJ9 w g n zs) (hi:zs.length<n) (hu:IsS w .u64 u (digs 4294967296 z.natAbs)) :
  w.grownBy ((w.setCell ⟨g,0+zs.length*2,none⟩ (.bool (ngB z))).setCell ⟨g,0+zs.length*2+1,none⟩ u) (some g)/\zJ9 ((w.setCell ⟨g,0+zs.length*2,none⟩ (.bool (ngB z))).setCell ⟨g,0+zs.length*2+1,none⟩ u) g n (zs ++ [z]):=by
 have hg:w.grownBy ((w.setCell ⟨g,0+zs.length*2,none⟩ (.bool (ngB z))).setCell ⟨g,0+zs.length*2+1,none⟩ u) (some g):=(zE7 w g (0+zs.length*2) _).andThen (zE7 _ g (0+zs.length*2+1) _) (fun j e => .inr e);have keep:=fun {k v l} => h.keep (k:=k) (v:=v) (l:=l) hg;obtain ⟨ps,h1,h2,h3,h4,h5⟩:=h;refine ⟨hg,ps.set zs.length (z,u),by rw [zB3];exact h1,by simp;omega,?_,fun p hp => ?_,fun j x hx => ?_⟩
 ·have h6:=zS4 (zS4 h3 (i:=0+zs.length*2) (.bool (ngB z))) (i:=0+zs.length*2+1) u
  have e:(((zF0 ps).toArray).setIfInBounds (0+zs.length*2) (.bool (ngB z))).setIfInBounds (0+zs.length*2+1) u=(zF0 (ps.set zs.length (z,u))).toArray:=by
   rw [<- yK1 ps zs.length (z,u),Nat.zero_add];simp
  rw [e] at h6;exact h6
 ·rcases List.mem_or_eq_of_mem_set hp with hp | rfl
  ·exact h4 p hp
  ·obtain ⟨A,c,e1,_⟩:=hu;exact ⟨_,_,_,e1⟩
 ·by_cases hj:j=zs.length
  ·subst hj;rw [List.getElem?_concat_length] at hx;injection hx with hx;subst hx;exact ⟨_,List.getElem?_set_self (by omega),rfl,keep hu⟩
  ·have hl:=(zA4.1 hx).1;rw [zA8,List.length_singleton] at hl;rw [zB0 (by omega)] at hx;obtain ⟨p,k1,k2,k3⟩:=h5 j x hx;exact ⟨p,by rw [List.getElem?_set_ne (fun e=>hj e.symm)];exact k1,k2,keep k3⟩
theorem zJ9.sl {w:World} {g n:Nat} {zs:List Int} (h:zJ9 w g n zs) (hn:zs.length=n) (hm:n<=1000000000):SlZ .u64 4294967296 w (.slice (some ⟨g,0,none⟩) n n) zs:=by
 obtain ⟨ps,h1,h2,h3,h4,h5⟩:=h;refine ⟨some ⟨g,0,none⟩,n,by rw [hn],by omega,by unfold maxLen;omega,fun i z hz => ?_⟩;obtain ⟨p,k1,rfl,k3⟩:=h5 i z hz;obtain ⟨f0,f1⟩:=qK6 ps i p k1;refine ⟨g,0,p.2,rfl,?_,?_,k3⟩
 ·rw [Nat.zero_add,h3.cell,List.getElem?_toArray];exact f0
 ·rw [Nat.zero_add,h3.cell,List.getElem?_toArray];exact f1
theorem made2 (n:Nat):(madeCells #[.bool false,.slice none 0 0] (n*2)).toList=zF0 (zB n ((0,.slice none 0 0):Int × Value)):=by
  have key:∀ n j:Nat,(zF0 (zB n ((0,.slice none 0 0):Int × Value)))[j]?=if j<n*2 then some ((#[.bool false,.slice none 0 0]:Array Value)[j % 2]?.getD undef) else none:=by
    intro n
    induction n with
    | zero=>intro j;simp [zF0]
    | succ n ih =>
      intro j;rw [List.replicate_succ,zW7]
      match j with
      | 0=>simp [ngB]
      | 1=>simp;omega
      | j + 2 =>
        rw [List.getElem?_cons_succ,List.getElem?_cons_succ,ih j];have h1:(j+2) % 2=j % 2:=by omega
        rw [h1];by_cases h:j<n*2
        · rw [if_pos h,if_pos (by omega)]
        · rw [if_neg h,if_neg (by omega)]
  apply List.ext_getElem?;intro j;rw [key n j];have h3:j % 2<2:=Nat.mod_lt _ (by omega);by_cases h:j<n*2
  · rw [if_pos h];rcases (by omega:j % 2=0\/j % 2=1) with e | e<;>simp [madeCells,h,e]
  · rw [if_neg h];simp [madeCells,h]
theorem jG {w:World} {g n:Nat} (h:Blk w g 60 (zF0 (zB n ((0,.slice none 0 0):Int × Value))).toArray):zJ9 w g n [] :=
 ⟨_,List.length_replicate,Nat.zero_le _,h,fun p hp=>by obtain rfl:=(List.mem_replicate.1 hp).2;exact ⟨_,_,_,rfl⟩,fun i q hq=>by simp at hq⟩
section
variable {P:Program}
theorem yK2 {w:World} {t:TypeId} (ht:P.underlying t=some (.slice 60)) (hI:∃ i,P.info? 60=some i/\i.zero=some (.agg #[.bool false,.slice none 0 0])/\i.size=2/\i.bytes=32) (n:Nat) (hn:n<=1000000000) :
  ∃ w',(Instr.makeSlice t (.int .i64 (n:Int)) (.int .i64 (n:Int))).run P w=.ok (.slice (some ⟨w.heap.size,0,none⟩) n n) w'/\zJ9 w' w.heap.size n []/\Below w.heap.size w w':=by
 obtain ⟨i,hi,hz,hs,hb⟩:=hI;obtain ⟨w',h1,h2,h3⟩:=run_make_full (P:=P) w w.heap.size t 60 i _ 2 ht hi hz hs .i64 .i64 n (by rw [hb];omega) (by unfold maxLen;omega) (zB4 _);refine ⟨w',h1,jG ?_,(Below.refl _ w).grown h3 (zB4 _) (fun g hg=>by cases hg)⟩;obtain ⟨hl,h2⟩:=h2;rcases h2 with ⟨h4,_⟩|⟨g,cap,cur,h4,_,h5,_,_,h6,h7⟩
 ·cases h4
 ·injection h4 with h4 _ h8;injection h4 with h4;injection h4 with h4 _ _;subst h4;subst h8;rw [zA7 (by simp [h6])] at h7
  have e:cur=(zF0 (zB n ((0,.slice none 0 0):Int × Value))).toArray:=by
   rw [<- made2];rw [show (Value.agg #[.bool false,.slice none 0 0]).cells = #[.bool false,.slice none 0 0] from rfl] at h7;rw [<- h7]
  rw [<- e];exact h5
end
def SlW (k:IntKind) (B:Nat) (w:World) (v:Value) (t:List (List Int)):Prop:=∃ us:List Value,us.length=t.length/\(∃ A c,v=.slice A us.length c/\us.length<=c/\c<=maxLen /\ ∀ (i:Nat) (u:Value),us[i]?=some u -> ∃ ad,A=some ad/\w.cell? (ad.add i)=some u) /\ ∀ (i:Nat) (u:Value) (r:List Int),us[i]?=some u->t[i]?=some r->SlZ k B w u r
theorem SlW.below {k:IntKind} {B:Nat} {w w':World} {v:Value} {t:List (List Int)} (h:SlW k B w v t) (hb:Below w.heap.size w w'):SlW k B w' v t:=by
 obtain ⟨us,hl,⟨A,c,e,h1,h2,h3⟩,h4⟩:=h;refine ⟨us,hl,⟨A,c,e,h1,h2,fun i u hu => ?_⟩,fun i u r hu hr=>(h4 i u r hu hr).below hb⟩;obtain ⟨ad,ha,hc⟩:=h3 i u hu;exact ⟨ad,ha,(hb.cell (World.block_lt_of_cell? w _ hc)).trans hc⟩
theorem SlW.shape {k:IntKind} {B:Nat} {w:World} {v:Value} {t:List (List Int)} (h:SlW k B w v t):∃ A c,v=.slice A t.length c/\t.length<=c/\c<=maxLen:=by
 obtain ⟨us,hl,⟨A,c,e,h1,h2,_⟩,_⟩:=h;rw [hl] at e h1;exact ⟨A,c,e,h1,h2⟩
theorem SlW.at_ {k:IntKind} {B:Nat} {w:World} {A:Option Addr} {n c i:Nat} {t:List (List Int)} {r:List Int} (h:SlW k B w (.slice A n c) t) (hr:t[i]?=some r):∃ ad Ar cr,A=some ad/\i<n/\w.cell? (ad.add i)=some (.slice Ar r.length cr)/\SlZ k B w (.slice Ar r.length cr) r:=by
 obtain ⟨us,hl,⟨A',c',e,h1,h2,h3⟩,h4⟩:=h;injection e with e1 e2 e3;subst e1;subst e2;subst e3;have hi:=(zA4.1 hr).1;obtain ⟨u,hu⟩:∃ u,us[i]?=some u:=⟨_,zA3 (by omega)⟩;obtain ⟨ad,ha,hc⟩:=h3 i u hu;have hs:=h4 i u r hu hr;obtain ⟨Ar,cr,rfl,_⟩:=hs.shape;exact ⟨ad,Ar,cr,ha,by omega,hc,hs⟩
theorem SlW.place {k:IntKind} {B:Nat} {w:World} {A:Option Addr} {n c:Nat} {t:List (List Int)} (h:SlW k B w (.slice A n c) t) (hne:t≠[]):∃ ad,A=some ad:=by
  cases t with
  | nil=>exact absurd rfl hne
  | cons r t =>
    obtain ⟨ad,_,_,e,_⟩:=h.at_ (i:=0) (r:=r) rfl;exact ⟨ad,e⟩
theorem SlW.at2 {k:IntKind} {B:Nat} {w:World} {ad:Addr} {n c i:Nat} {t:List (List Int)} {r:List Int} (h:SlW k B w (.slice (some ad) n c) t) (hr:t[i]?=some r):∃ Ar cr,i<n/\w.cell? (ad.add i)=some (.slice Ar r.length cr)/\SlZ k B w (.slice Ar r.length cr) r:=by
 obtain ⟨ad',Ar,cr,hA,h1,h2,h3⟩:=h.at_ hr;injection hA with hA;subst hA;exact ⟨Ar,cr,h1,h2,h3⟩
theorem zG9.keepZ {w w':World} {g:Nat} {TS:TypeId} {us:List Value} {k:IntKind} {B:Nat} {v:Value} {r:List Int} (h:zG9 w g TS us) (hg:w.grownBy w' (some g)) (hs:SlZ k B w v r):SlZ k B w' v r:=by
 obtain ⟨A,c,e,h2,h3,h4⟩:=hs;refine ⟨A,c,e,h2,h3,fun i z hz => ?_⟩;obtain ⟨g',o,u,e2,c0,c1,s⟩:=h4 i z hz
 have hne:some g'≠some g:=by
  intro e3;injection e3 with e3;subst e3;rw [h.1.cell,List.getElem?_toArray] at c0;obtain ⟨A',m,d,e4⟩:=h.2 _ (zA5 c0);cases e4
 exact ⟨g',o,u,e2,hg.cell c0 hne,hg.cell c1 hne,h.keep hg s⟩
def zE1 (k:IntKind) (B:Nat) (w:World) (g:Nat) (TS:TypeId) (us:List Value) (t:List (List Int)):Prop:=zG9 w g TS us/\us.length=t.length /\ ∀ (i:Nat) (u:Value) (r:List Int),us[i]?=some u->t[i]?=some r->SlZ k B w u r
theorem zE1.below {k:IntKind} {B:Nat} {w w':World} {g:Nat} {TS:TypeId} {us:List Value} {t:List (List Int)} (h:zE1 k B w g TS us t) (hb:Below w.heap.size w w'):zE1 k B w' g TS us t:=⟨h.1.below hb,h.2.1,fun i u r hu hr=>(h.2.2 i u r hu hr).below hb⟩
theorem zE1.drew {k:IntKind} {B:Nat} {w:World} {g:Nat} {TS:TypeId} {us:List Value} {t:List (List Int)} (h:zE1 k B w g TS us t):zE1 k B w.drew g TS us t:=h.below (Below.refl _ w).drew
theorem zE1.lt {k:IntKind} {B:Nat} {w:World} {g:Nat} {TS:TypeId} {us:List Value} {t:List (List Int)} (h:zE1 k B w g TS us t):g<w.heap.size:=h.1.lt
theorem zE1.put {k:IntKind} {B:Nat} {w w':World} {g i:Nat} {TS:TypeId} {us:List Value} {t:List (List Int)} {u:Value} {r:List Int} (h:zE1 k B w g TS us t) (hg:w.grownBy w' (some g)) (hB:w'.heap[g]?=some (.cells (us.toArray.setIfInBounds i u) TS (0,0))) (hu:SlZ k B w u r):zE1 k B w' g TS (us.set i u) (t.set i r):=by
 obtain ⟨A,c,eu,_⟩:=hu.shape;refine ⟨h.1.put hB ⟨_,_,_,eu⟩,by rw [zB3,zB3];exact h.2.1,fun j x y hx hy => ?_⟩;by_cases hj:i=j
 ·subst hj;have hi:i<us.length:=by have:=(zA4.1 hx).1;rwa [zB3] at this
  rw [List.getElem?_set_self hi] at hx;rw [List.getElem?_set_self (by rw [<- h.2.1];exact hi)] at hy;injection hx with hx;injection hy with hy;subst hx;subst hy;exact h.1.keepZ hg hu
 ·rw [List.getElem?_set_ne hj] at hx hy;exact h.1.keepZ hg (h.2.2 j x y hx hy)
theorem zE1.stored {k:IntKind} {B:Nat} {w:World} {g:Nat} {TS:TypeId} {us:List Value} {t:List (List Int)} (h:zE1 k B w g TS us t) (i:Nat) {u:Value} {r:List Int} (hu:SlZ k B w u r):zE1 k B (w.setCell ⟨g,i,none⟩ u) g TS (us.set i u) (t.set i r):=h.put (zE7 w g i u) (heap_setCell h.1.1) hu
theorem zE1.at_ {k:IntKind} {B:Nat} {w:World} {g:Nat} {TS:TypeId} {us:List Value} {T:List (List Int)} (h:zE1 k B w g TS us T) {i:Nat} {r:List Int} (hr:T[i]?=some r):∃ Ar cr,us[i]?=some (.slice Ar r.length cr)/\w.cell? ⟨g,i,none⟩=some (.slice Ar r.length cr)/\SlZ k B w (.slice Ar r.length cr) r:=by
 have hi:=(zA4.1 hr).1;obtain ⟨u,hu⟩:∃ u,us[i]?=some u:=⟨_,zA3 (by rw [h.2.1];exact hi)⟩;have hs:=h.2.2 i u r hu hr;obtain ⟨Ar,cr,rfl,_⟩:=hs.shape;have hc:=h.1.cell hu;rw [zR2] at hc;exact ⟨Ar,cr,hu,hc,hs⟩
theorem zE1.sub {k:IntKind} {B:Nat} {w:World} {g:Nat} {TS:TypeId} {us:List Value} {T:List (List Int)} (h:zE1 k B w g TS us T) {o m c:Nat} (hm:o+m<=T.length) (hc:m<=c) (hx:c<=maxLen):SlW k B w (.slice (some ⟨g,o,none⟩) m c) ((T.drop o).take m):=by
 have hl:((us.drop o).take m).length=m:=by rw [zB2,List.length_drop,h.2.1];omega
 have hl2:((T.drop o).take m).length=m:=by rw [zB2,List.length_drop];omega
 refine ⟨(us.drop o).take m,by rw [hl,hl2],⟨some ⟨g,o,none⟩,c,by rw [hl],by omega,hx,fun i u hu=>⟨_,rfl,?_⟩⟩,fun i u r hu hr => ?_⟩
 ·have hi:=(zA4.1 hu).1;rw [List.getElem?_take_of_lt (by omega),List.getElem?_drop] at hu;have hc:=h.1.cell hu;rw [zR2] at hc;rw [qT7];exact hc
 ·have hi:=(zA4.1 hu).1;rw [List.getElem?_take_of_lt (by omega),List.getElem?_drop] at hu hr;exact h.2.2 _ u r hu hr
def zC7 (T:List (List Int)) (i j:Nat):Int:=(T.getD i []).getD j 0
theorem yK3 {T:List (List Int)} {i j:Nat} {r:List Int} {z:Int} (hr:T[i]?=some r) (hz:r[j]?=some z):zC7 T i j=z:=by
 unfold zC7;rw [zA6,zA6,hr];show (r[j]?).getD 0=z
 rw [hz];rfl
def zH (T:List (List Int)):Nat:=(T.getD 0 []).length
def qC0 (T:List (List Int)):Prop:=T.length<=100 /\ ∀ r∈T,r.length=zH T/\r.length<=100
theorem yK4 {P:Program} {t e:TypeId} (hu:P.underlying t=some (.slice e)) (hs:(P.info? e).map (·.size)=some 2) {g o n c:Nat} (hk:0<n) (w:World):(Instr.indexAt t (.slice (some ⟨g,o,none⟩) n c) (.int .i64 0)).run P w=.ok (.pointer (some ⟨g,o,none⟩)) w:=by
 have h:=zW6 hu hs (g:=g) (o:=o) (c:=c) hk w;rw [show o+0*2=o by omega] at h;exact h
theorem qU7 (z:Int):(zK5 z 0=0) ↔ z=0:=by
 unfold zK5
 split
 ·constructor<;>intro h<;>omega
 ·split<;>constructor<;>intro h<;>omega
def jG0 (L:List (List Int)) (w:World) (e:Ending) (w':World):Prop:=∃ k:Nat,e=.returned (.int .i64 (k:Int))/\k<=L.length/\(∀ i,i<k->zC7 L i 0=0)/\(k<L.length->zC7 L k 0≠0)/\Below w.heap.size w w'
theorem jG1 (a0:Value) (L:List (List Int)) (w:World) (h0:SlW .u64 4294967296 w a0 L) (hl:∀ r∈L,0<r.length):Calls prog 117 #[a0] w (jG0 L w):=by
 have st0:=h0;obtain ⟨A0,c0,rfl,hc0,hm0⟩:=h0.shape;unfold maxLen at hm0;have HL:=hQ9 hl;clear hl
 go_enter func117,ntmps117
 go_wp2
 go_loopw [6] (fun v6 wr => ∃ k:Nat,k<=L.length/\Hid (∀ i,i<k->zC7 L i 0=0)/\Below w.heap.size w wr/\v6=.int .i64 (k:Int)) (fun v6 _=>L.length-(intOf v6).toNat)
 case atStart=>exact ⟨0,by omega,(by show ∀ i,_;intro i hi;omega),Below.refl _ _,rfl⟩
 case round =>
  obtain ⟨k,hk,HZ,bb,rfl⟩:=hrel;by_cases hlt:k<L.length
  ·obtain ⟨r,hr⟩:∃ r,L[k]?=some r:=⟨_,zA3 hlt⟩;have hal:=HL.out r (zA5 hr);obtain ⟨q,hq⟩:∃ q,r[0]?=some q:=⟨_,zA3 hal⟩;have he:Hid (zC7 L k 0=q):=yK3 hr hq;obtain ⟨ad,rfl⟩:=st0.place (List.length_pos_iff.1 (by omega));obtain ⟨Ar,cr,hik,ecr,sr⟩:=(st0.below bb).at2 hr;obtain ⟨gr,or,u,rfl,hia,k0,k1,su⟩:=sr.at_ hq;rw [show or+0*2=or by omega] at k0 k1;obtain ⟨Au,cu,rfl,_⟩:=id su;have hix:=fun w=>yK4 (P:=prog) underlying48 (by kernel_rfl) (g:=gr) (o:=or) (c:=cr) hia w;have kq:IsZ wr (.agg #[.bool (ngB q),.slice Au (digs 4294967296 q.natAbs).length cu]) q:=⟨_,rfl,su⟩;obtain ⟨t,ht⟩:∃ t,t=zK5 q 0:=⟨_,rfl⟩;have hz:t=0 ↔ q=0:=by rw [ht];exact qU7 q
   have HT:=hQ9 ht;clear hr hq ht sr;go_wp2_with fail
   refine (qB0 _ q t _ kq HT.out).mono ?_;rintro e w4 ⟨rfl,b4⟩;have bb4:=bb.trans (b4.mono bb.size);by_cases hq0:q=0
   ·obtain rfl:t=0:=hz.2 hq0
    have HZ2:Hid (∀ i,i<k+1->zC7 L i 0=0):=by
     show ∀ i,_
     intro i hi;by_cases e:i=k
     ·subst e;rw [he.out];exact hq0
     ·exact HZ.out i (by omega)
    clear hz hq0 kq k0 k1;go_wp2;go_roundw;case rel=>exact ⟨k+1,by omega,HZ2,bb4,by go_num⟩
    case measure=>simp [intOf];omega
   ·have hz1:(t != 0)=true:=by rw [bne_iff_ne];exact fun e=>hq0 (hz.1 e)
    have hz2:¬ t=0:=fun e=>hq0 (hz.1 e);have HN:Hid (zC7 L k 0≠0):=by show _≠_;rw [he.out];exact hq0
    clear hz hq0 kq k0 k1;go_wp2;go_ret;exact ⟨k,rfl,by omega,HZ.out,fun _=>HN.out,bb4⟩
  ·obtain rfl:k=L.length:=by omega
   go_wp2;go_ret;exact ⟨_,rfl,zB4 _,HZ.out,fun h=>by omega,bb⟩
theorem jG2 {T:List (List Int)} {k:Nat} {r:List Int} (h:∀ x∈T.take k,x.length=zH T/\x.length<=100) (hr:T[k]?=some r) (h1:r.length=zH T) (h2:r.length<=100):∀ x∈T.take (k+1),x.length=zH T/\x.length<=100:=by
 intro x hx;rw [List.take_add_one,hr] at hx;rcases List.mem_append.1 hx with hx | hx
 ·exact h x hx
 ·obtain rfl:x=r:=by simpa using hx
  exact ⟨h1,h2⟩
theorem yK5 (a0:Value) (T:List (List Int)) (w:World) (h0:SlW .u64 4294967296 w a0 T):Calls prog 71 #[a0] w (fun e w'=>(qC0 T/\zD5 (.bool true) w e w')\/(¬ qC0 T/\zD5 (.bool false) w e w')):=by
 have st0:=h0;obtain ⟨A0,c0,rfl,hc0,hm0⟩:=h0.shape;unfold maxLen at hm0
 go_enter func71,ntmps71
 by_cases h1:100<T.length
 ·have h1':(100:Int)<((T.length:Nat):Int):=by omega
  go_wp2;go_ret;exact .inr ⟨fun h=>by have:=h.1;omega,rfl,Below.refl _ _⟩
 ·have h1':¬ (100:Int)<((T.length:Nat):Int):=by omega
  go_wp2
  go_loopw [9] (fun v9 wr => ∃ k:Nat,k<=T.length/\Hid (∀ x∈T.take k,x.length=zH T/\x.length<=100)/\Below w.heap.size w wr/\v9=.int .i64 (k:Int)) (fun v9 _=>T.length-(intOf v9).toNat)
  case atStart=>exact ⟨0,by omega,(by show ∀ x∈_,_;intro x hx;simp at hx),Below.refl _ _,rfl⟩
  case round =>
   obtain ⟨k,hk,HE,bb,rfl⟩:=hrel;by_cases hlt:k<T.length
   ·obtain ⟨r,hr⟩:∃ r,T[k]?=some r:=⟨_,zA3 hlt⟩;obtain ⟨r0,hr0⟩:∃ r0,T[0]?=some r0:=⟨_,zA3 (by omega)⟩;have HW:Hid (zH T=r0.length):=by show _=_;unfold zH;rw [zA6,hr0];rfl
    have HR:=hQ9 hr;obtain ⟨ad,rfl⟩:=st0.place (List.length_pos_iff.1 (by omega));obtain ⟨Ar,cr,hik,ecr,-⟩:=(st0.below bb).at2 hr;obtain ⟨A1,c1,hi0,ec0,-⟩:=(st0.below bb).at2 hr0;have ec0':wr.cell? ad=some (.slice A1 r0.length c1):=by rw [<- ec0];congr 1
    clear hr hr0 ec0;by_cases e1:r.length=r0.length
    ·by_cases e2:100<r.length
     ·have g1:(((r.length:Nat):Int) != ((r0.length:Nat):Int))=false:=by rw [bne_eq_false_iff_eq];omega
      have g2:(100:Int)<((r.length:Nat):Int):=by omega
      have HN:Hid (¬ qC0 T):=fun h=>by have:=(h.2 r (zA5 HR.out)).2;omega
      go_upto_region 6 with (fail)
      go_quiet (fail)
      go_wp2;go_ret;exact .inr ⟨HN.out,rfl,zN bb _⟩
     ·have g1:(((r.length:Nat):Int) != ((r0.length:Nat):Int))=false:=by rw [bne_eq_false_iff_eq];omega
      have g2:¬ (100:Int)<((r.length:Nat):Int):=by omega
      have HE2:Hid (∀ x∈T.take (k+1),x.length=zH T/\x.length<=100):=jG2 HE.out HR.out (by rw [HW.out];exact e1) (by omega);go_upto_region 6 with (fail)
      go_quiet (fail)
      go_wp2;go_roundw;case rel=>exact ⟨k+1,by omega,HE2,zN bb _,by go_num⟩
      case measure=>simp [intOf];omega
    ·have g1:(((r.length:Nat):Int) != ((r0.length:Nat):Int))=true:=by rw [bne_iff_ne];omega
     have HN:Hid (¬ qC0 T):=fun h=>by have:=(h.2 r (zA5 HR.out)).1;have:=HW.out;omega
     go_upto_region 6 with (fail)
     go_quiet (fail)
     go_wp2;go_ret;exact .inr ⟨HN.out,rfl,zN bb _⟩
   ·obtain rfl:k=T.length:=by omega
    go_wp2;go_ret;exact .inl ⟨⟨by omega,by have:=HE.out;rwa [List.take_length] at this⟩,rfl,bb⟩
def zW8 (T:List (List Int)):Prop:=T.length<=100 /\ ∀ r∈T,r.length=T.length
theorem qN4 (T:List (List Int)):zW8 T ↔ qC0 T/\(T.length=0\/zH T=T.length):=by
 constructor
 ·intro h;by_cases h0:T.length=0
  ·obtain rfl:=List.length_eq_zero_iff.1 h0;exact ⟨⟨by simp,fun r hr=>by cases hr⟩,.inl rfl⟩
  ·have hw:zH T=T.length:=by
    unfold zH;have e:T[0]?=some (T[0]'(by omega)):=zA3 (by omega);rw [zA6,e];exact h.2 _ (zA5 e)
   exact ⟨⟨h.1,fun r hr=>⟨by rw [hw];exact h.2 r hr,by rw [h.2 r hr];exact h.1⟩⟩,.inr hw⟩
 ·rintro ⟨h1,h2⟩;refine ⟨h1.1,fun r hr => ?_⟩;rcases h2 with h2 | h2
  ·obtain rfl:=List.length_eq_zero_iff.1 h2;cases hr
  ·rw [(h1.2 r hr).1,h2]
theorem jG3 (a0:Value) (T:List (List Int)) (w:World) (h0:SlW .u64 4294967296 w a0 T):Calls prog 70 #[a0] w (fun e w'=>(zW8 T/\zD5 (.bool true) w e w')\/(¬ zW8 T/\zD5 (.bool false) w e w')):=by
 have st0:=h0;obtain ⟨A0,c0,rfl,hc0,hm0⟩:=h0.shape;unfold maxLen at hm0
 go_enter func70,ntmps70;go_wp2_with fail
 refine (yK5 _ T _ st0).mono ?_;rintro e w2 (⟨hE,rfl,b2⟩|⟨hE,rfl,b2⟩)
 ·have HE:=hQ9 hE;clear hE;by_cases hn:T.length=0
  ·have hn':(((T.length:Nat):Int) == 0)=true:=by rw [beq_iff_eq];omega
   have hn2:((T.length:Nat):Int)=0:=by omega
   have HS:Hid (zW8 T):=(qN4 T).2 ⟨HE.out,.inl hn⟩;go_wp2;go_ret;exact .inl ⟨HS.out,rfl,b2⟩
  ·obtain ⟨r0,hr0⟩:∃ r0,T[0]?=some r0:=⟨_,zA3 (by omega)⟩;have hn':(((T.length:Nat):Int) == 0)=false:=by rw [beq_eq_false_iff_ne];omega
   have hn2:¬ ((T.length:Nat):Int)=0:=by omega
   have HW:Hid (zH T=r0.length):=by show _=_;unfold zH;rw [zA6,hr0];rfl
   obtain ⟨ad,rfl⟩:=st0.place (List.length_pos_iff.1 (by omega));obtain ⟨A1,c1,hi0,ec0,-⟩:=(st0.below b2).at2 hr0;have ec0':w2.cell? ad=some (.slice A1 r0.length c1):=by rw [<- ec0];congr 1
   clear hr0 ec0;by_cases hs:r0.length=T.length
   ·have g1:(((r0.length:Nat):Int) == ((T.length:Nat):Int))=true:=by rw [beq_iff_eq];omega
    have HS:Hid (zW8 T):=(qN4 T).2 ⟨HE.out,.inr (by rw [HW.out];exact hs)⟩;go_wp2;go_ret;exact .inl ⟨HS.out,by simp [g1],b2⟩
   ·have g1:(((r0.length:Nat):Int) == ((T.length:Nat):Int))=false:=by rw [beq_eq_false_iff_ne];omega
    have HS:Hid (¬ zW8 T):=fun h=>by
     rcases ((qN4 T).1 h).2 with h | h
     ·exact hn h
     ·exact hs (by rw [<- HW.out];exact h)
    go_wp2;go_ret;exact .inr ⟨HS.out,by simp [g1],b2⟩
 ·have HS:Hid (¬ zW8 T):=fun h=>hE ((qN4 T).1 h).1;clear hE;go_wp2;go_ret;exact .inr ⟨HS.out,rfl,b2⟩
theorem qN5 {P:Program} {t:TypeId} {g o:Nat} {x y:Value} {d:TypeDesc} {w:World} (hu:P.underlying t=some d) (hd:d.isRow=true) (hi:(P.info? t).map (·.size)=some 2) (h0:w.cell? ⟨g,o,none⟩=some x) (h1:w.cell? ⟨g,o+1,none⟩=some y):(Instr.loadAt t (.pointer (some ⟨g,o,none⟩))).run P w=.ok (.agg #[x,y]) w :=
 run_loadAt_mid w g o t [x,y] d (fun j v hj=>by
  match j,hj with
  | 0,hj=>simp at hj;subst hj;exact h0
  | 1,hj=>simp at hj;subst hj;exact h1
  | j+2,hj=>simp at hj) hu hd hi
theorem yK6 {P:Program} {t e:TypeId} (hu:P.underlying t=some (.slice e)) (hs:(P.info? e).map (·.size)=some 2) {g n c k:Nat} (hk:k<n) (w:World):(Instr.indexAt t (.slice (some ⟨g,0,none⟩) n c) (.int .i64 (k:Int))).run P w=.ok (.pointer (some ⟨g,k*2,none⟩)) w:=by
 have h:=zW6 (P:=P) hu hs (g:=g) (o:=0) (c:=c) hk w;rw [Nat.zero_add] at h;exact h
theorem no_ints2 {k:IntKind} {b:Bool} {A:Option Addr} {n c:Nat}:∀ x∈(#[.bool b,.slice A n c]:Array Value),∀ m,x ≠ .int k m:=by
 intro x hx m;have:x=.bool b\/x=.slice A n c:=by simpa using hx
 rcases this with rfl|rfl<;>simp
def RetRI (zs:List Int) (w:World) (e:Ending) (w':World):Prop:=∃ g,e=.returned (.slice (some ⟨g,0,none⟩) zs.length zs.length)/\zJ9 w' g zs.length zs/\w.heap.size<=g/\Below w.heap.size w w'
def Crs (p q zs:List Int) (D:Int):Prop:=∀ j x,zs[j]?=some x->p.getD (j+1) 0*q.getD 0 0-p.getD 0 0*q.getD (j+1) 0=x*D
theorem qN6 {p:List Int} {j:Nat} {x:Int} (h:p[j]?=some x):p.getD j 0=x:=by rw [zA6,h];rfl
theorem jG4 (a0 a1 a2:Value) (p q zs:List Int) (D:Int) (m:Nat) (w:World) (h0:SlZ .u64 4294967296 w a0 p) (h1:SlZ .u64 4294967296 w a1 q) (h2:IsZ w a2 D) (hl:p.length=m+1/\q.length=m+1/\zs.length=m/\m<=1000) (hc:Hid (D≠0/\(∀ z∈p,zC4 z<=5000)/\(∀ z∈q,zC4 z<=5000)/\zC4 D<=5000/\Crs p q zs D)) :
  Calls prog 118 #[a0,a1,a2] w (RetRI zs w):=by
 obtain ⟨hp,hq,hz,hm⟩:=hl;have sp:=h0;have sq:=h1;obtain ⟨A0,c0,rfl,hc0,hm0⟩:=h0.shape;obtain ⟨A1,c1,rfl,hc1,hm1⟩:=h1.shape;obtain ⟨u2,rfl,s2⟩:=h2;obtain ⟨A2,c2,rfl,_⟩:=id s2;rw [hp] at sp hc0 |-;rw [hq] at sq hc1 |-;have HZ:=hQ9 hz;have HP:=hQ9 (zA hp hq);clear h0 h1 hp hq hz hm0 hm1;obtain ⟨mk,hmk⟩:=Classical.axiomOfChoice (fun w=>yK2 (P:=prog) (w:=w) underlying48 Go.Proofs.YtagaabooccnamaaGreat.whl.info_int m (by omega));have hmk1:=fun w=>(hmk w).1;have HMK:=hQ9 (fun w=>(hmk w).2);clear hmk;have ba:=zD1 (w:=w) (zB4 _) (.cells #[.bool (ngB D),.slice A2 (digs 4294967296 D.natAbs).length c2] 60);have B2:=Blk.new w 60 #[.bool (ngB D),.slice A2 (digs 4294967296 D.natAbs).length c2];have t2:=s2.below ba
 go_enter func118,ntmps118
 go_upto_region 1 with (fail)
 obtain ⟨wx,hwx⟩:∃ wx,wx=w.alloc (.cells #[.bool (ngB D),.slice A2 (digs 4294967296 D.natAbs).length c2] 60):=⟨_,rfl⟩;rw [<- hwx] at ba B2 t2 |-;clear hwx;have hB2:=B2.lt;obtain ⟨rm,bm⟩:=HMK.out wx;have hgr:wx.heap.size<(mk wx).heap.size:=rm.lt;have bb0:=bm;have hgw:w.heap.size<=wx.heap.size:=ba.size;have HBA:=hQ9 ba;clear ba bm;go_wp2
 go_loopw [16] (fun v16 wr => ∃ k:Nat,k<=m/\zJ9 wr wx.heap.size m (zs.take k)/\Hid (Below wx.heap.size wx wr)/\v16=.int .i64 (k:Int)) (fun v16 _=>m-(intOf v16).toNat)
 case atStart=>exact ⟨0,by omega,rm,bb0,rfl⟩
 case round =>
  clear rm bb0;obtain ⟨k,hk,rk,HB,rfl⟩:=hrel;obtain ⟨wi,hwi⟩:∃ wi,wi=wr:=⟨_,rfl⟩;subst hwi;by_cases hlt:k<m
  ·have hzl:=HZ.out;obtain ⟨z,hz⟩:∃ z,zs[k]?=some z:=⟨_,zA3 (by omega)⟩;obtain ⟨x0,hx0⟩:∃ x,p[0]?=some x:=⟨_,zA3 (by have:=HP.out;omega)⟩;obtain ⟨x1,hx1⟩:∃ x,p[k+1]?=some x:=⟨_,zA3 (by have:=HP.out;omega)⟩;obtain ⟨y0,hy0⟩:∃ x,q[0]?=some x:=⟨_,zA3 (by have:=HP.out;omega)⟩;obtain ⟨y1,hy1⟩:∃ x,q[k+1]?=some x:=⟨_,zA3 (by have:=HP.out;omega)⟩
   have HX:Hid (x1*y0-x0*y1=z*D):=by
    have h:=hc.out.2.2.2.2 k z hz;rw [qN6 hx0,qN6 hx1,qN6 hy0,qN6 hy1] at h;exact h
   have HT:Hid (zs.take (k+1)=zs.take k ++ [z]):=by show _=_;rw [List.take_add_one,hz];rfl
   have HTL:Hid ((zs.take k).length=k):=by show _=_;rw [zB2];omega
   have l0:=hc.out.2.1 x0 (zA5 hx0);have l1:=hc.out.2.1 x1 (zA5 hx1);have l2:=hc.out.2.2.1 y0 (zA5 hy0);have l3:=hc.out.2.2.1 y1 (zA5 hy1);have hBw:Below w.heap.size w wi:=HBA.out.trans (HB.out.mono HBA.out.size);obtain ⟨g0,o0,rfl,-⟩:=sp.place (fun e=>by rw [e] at hx0;simp at hx0);obtain ⟨g1,o1,rfl,-⟩:=sq.place (fun e=>by rw [e] at hy0;simp at hy0);obtain ⟨v0,i0,p00,p01,e0⟩:=(sp.below hBw).at2 hx0;obtain ⟨v1,i1,p10,p11,e1⟩:=(sp.below hBw).at2 hx1;obtain ⟨v2,i2,p20,p21,e2⟩:=(sq.below hBw).at2 hy0;obtain ⟨v3,i3,p30,p31,e3⟩:=(sq.below hBw).at2 hy1;rw [show o0+0*2=o0 by omega] at p00 p01;rw [show o1+0*2=o1 by omega] at p20 p21;obtain ⟨Av0,cv0,rfl,_⟩:=id e0;obtain ⟨Av1,cv1,rfl,_⟩:=id e1;obtain ⟨Av2,cv2,rfl,_⟩:=id e2;obtain ⟨Av3,cv3,rfl,_⟩:=id e3;have CX:∀ w a b,IsZ w a x1->IsZ w b y0->Calls prog 56 #[a,b] w (zF (x1*y0) w):=fun w a b h1 h2=>zY6 a b x1 y0 _ w h1 h2 (by omega) (by omega) rfl;have CY:∀ w a b,IsZ w a x0->IsZ w b y1->Calls prog 56 #[a,b] w (zF (x0*y1) w):=fun w a b h1 h2=>zY6 a b x0 y1 _ w h1 h2 (by omega) (by omega) rfl;have m1:=zO3 l1 l2;have m2:=zO3 l0 l3;have CS:∀ w a b,IsZ w a (x1*y0)->IsZ w b (x0*y1)->Calls prog 147 #[a,b] w (zF (x1*y0-x0*y1) w):=fun w a b h1 h2=>yV2 a _ b _ w h1 h2 (by omega) (by omega);have m3:=qS6 m1 m2;have CE:∀ w a b,IsZ w a (x1*y0-x0*y1)->IsZ w b D->Calls prog 148 #[a,b] w (qE6 z 0 w):=fun w a b h1 h2=>yC8 a _ b _ z w h1 h2 (by omega) (by have:=hc.out.2.2.2.1;omega) hc.out.1 HX.out;obtain ⟨X,hX⟩:∃ X,X=x1*y0:=⟨_,rfl⟩;obtain ⟨Y,hY⟩:∃ Y,Y=x0*y1:=⟨_,rfl⟩;rw [<- hX] at CX CS CE;rw [<- hY] at CY CS CE;obtain ⟨Z,hZ⟩:∃ Z,Z=X-Y:=⟨_,rfl⟩;rw [<- hZ] at CS CE;have kx0:IsZ wi (.agg #[.bool (ngB x0),.slice Av0 (digs 4294967296 x0.natAbs).length cv0]) x0:=⟨_,rfl,e0⟩;have kx1:IsZ wi (.agg #[.bool (ngB x1),.slice Av1 (digs 4294967296 x1.natAbs).length cv1]) x1:=⟨_,rfl,e1⟩;have ky0:IsZ wi (.agg #[.bool (ngB y0),.slice Av2 (digs 4294967296 y0.natAbs).length cv2]) y0:=⟨_,rfl,e2⟩;have ky1:IsZ wi (.agg #[.bool (ngB y1),.slice Av3 (digs 4294967296 y1.natAbs).length cv3]) y1:=⟨_,rfl,e3⟩;have hk1:k+1<m+1:=by omega
   have hm0:0<m+1:=by omega
   have hkn:k+1<=9223372036854775807:=by omega
   clear hz hx0 hx1 hy0 hy1 hX hY hZ l0 l1 l2 l3 m1 m2 m3 e0 e1 e2 e3 hzl hBw;go_upto_region 5 with (fail)
   go_cut [9] from 19 to 37 (fun s9 wx' => ∃ (g9:Nat) (u9:Value),s9=.pointer (some ⟨g9,0,none⟩)/\wi.heap.size<=g9/\Blk wx' g9 60 #[.bool (ngB Z),u9]/\IsS wx' .u64 u9 (digs 4294967296 Z.natAbs)/\Hid (Below wi.heap.size wi wx'))
   case first =>
    refine flow 20 [Pd.eq (.slice (some ⟨g0,o0,none⟩) (m+1) c0),Pd.eq (.int .i64 (k:Int)),Pd.eq (.int .i64 ((k+1:Nat):Int)),Pd.eq (.pointer (some ⟨g0,o0+(k+1)*2,none⟩)),Pd.eq (.agg #[.bool (ngB x1),.slice Av1 (digs 4294967296 x1.natAbs).length cv1]),Pd.eq (.slice (some ⟨g1,o1,none⟩) (m+1) c1),Pd.eq (.pointer (some ⟨g1,o1+0*2,none⟩)),Pd.eq (.agg #[.bool (ngB y0),.slice Av2 (digs 4294967296 y0.natAbs).length cv2]),pz X wi.heap.size,Pd.eq (.slice (some ⟨g0,o0,none⟩) (m+1) c0),Pd.eq (.pointer (some ⟨g0,o0+0*2,none⟩)),Pd.eq (.agg #[.bool (ngB x0),.slice Av0 (digs 4294967296 x0.natAbs).length cv0]),Pd.eq (.slice (some ⟨g1,o1,none⟩) (m+1) c1),Pd.eq (.int .i64 (k:Int)),Pd.eq (.int .i64 ((k+1:Nat):Int)),Pd.eq (.pointer (some ⟨g1,o1+(k+1)*2,none⟩)),Pd.eq (.agg #[.bool (ngB y1),.slice Av3 (digs 4294967296 y1.natAbs).length cv3]),pz Y wi.heap.size,pz Z wi.heap.size,pn 60 #[.bool false,.slice none 0 0] wi.heap.size] (by kernel_rfl) (by kernel_rfl) ?ob1 ?done1
    case ob1 =>
     refine zA (zC2 rfl (zB7 rfl) (zB9 rfl rfl) (fun _ _ h=>h)) ?_;refine zA (zC2 rfl (zB7 rfl) (zB9 rfl rfl) (fun _ _ h=>h)) ?_;refine zA (zE8 rfl (zB7 rfl) (zB8 (j:=1) (by kernel_rfl) rfl rfl) (zG2 _) (fun _ _ _ hx hy=>⟨_,by rw [hx,hy];exact yF6 _ _ k 1 hkn _,rfl⟩)) ?_;refine zA (zI0 rfl (zB7 rfl) (zB8 (j:=0) (by kernel_rfl) rfl rfl) (zB8 (j:=2) (by kernel_rfl) rfl rfl) (fun _ _ _ hx hy=>⟨_,by rw [hx,hy];exact zW6 underlying48 (by kernel_rfl) hk1 _,rfl⟩)) ?_;refine zA (zC rfl (zB7 rfl) (zB8 (j:=3) (by kernel_rfl) rfl rfl) (fun w2 hb=>qN5 underlying60 rfl (by kernel_rfl) ((hb.cell (World.block_lt_of_cell? wi _ p10)).trans p10) ((hb.cell (World.block_lt_of_cell? wi _ p11)).trans p11)) (fun _ _=>rfl)) ?_;refine zA (zC2 rfl (zB7 rfl) (zB9 rfl rfl) (fun _ _ h=>h)) ?_;refine zA (zI0 rfl (zB7 rfl) (zB8 (j:=5) (by kernel_rfl) rfl rfl) (zG2 _) (fun _ _ _ hx hy=>⟨_,by rw [hx,hy];exact zW6 (k:=0) underlying48 (by kernel_rfl) hm0 _,rfl⟩)) ?_;refine zA (zC rfl (zB7 rfl) (zB8 (j:=6) (by kernel_rfl) rfl rfl) (fun w2 hb=>qN5 underlying60 rfl (by kernel_rfl) ((hb.cell (World.block_lt_of_cell? wi _ p20)).trans p20) ((hb.cell (World.block_lt_of_cell? wi _ p21)).trans p21)) (fun _ _=>rfl)) ?_;refine zA (zD0 rfl func56 (by kernel_rfl) (zB7 rfl) (zB8 (j:=4) (by kernel_rfl) rfl rfl) (zB8 (j:=7) (by kernel_rfl) rfl rfl) (fun w2 u0 u1 hb h0 h1=>by obtain rfl:=h0;obtain rfl:=h1;exact (CX w2 _ _ (kx1.drew.below hb) (ky0.drew.below hb)).mono fun e w3 h=>zF.pd h hb.size)) ?_;refine zA (zC2 rfl (zB7 rfl) (zB9 rfl rfl) (fun _ _ h=>h)) ?_;refine zA (zI0 rfl (zB7 rfl) (zB8 (j:=9) (by kernel_rfl) rfl rfl) (zG2 _) (fun _ _ _ hx hy=>⟨_,by rw [hx,hy];exact zW6 (k:=0) underlying48 (by kernel_rfl) hm0 _,rfl⟩)) ?_;refine zA (zC rfl (zB7 rfl) (zB8 (j:=10) (by kernel_rfl) rfl rfl) (fun w2 hb=>qN5 underlying60 rfl (by kernel_rfl) ((hb.cell (World.block_lt_of_cell? wi _ p00)).trans p00) ((hb.cell (World.block_lt_of_cell? wi _ p01)).trans p01)) (fun _ _=>rfl)) ?_;refine zA (zC2 rfl (zB7 rfl) (zB9 rfl rfl) (fun _ _ h=>h)) ?_;refine zA (zC2 rfl (zB7 rfl) (zB9 rfl rfl) (fun _ _ h=>h)) ?_;refine zA (zE8 rfl (zB7 rfl) (zB8 (j:=13) (by kernel_rfl) rfl rfl) (zG2 _) (fun _ _ _ hx hy=>⟨_,by rw [hx,hy];exact yF6 _ _ k 1 hkn _,rfl⟩)) ?_;refine zA (zI0 rfl (zB7 rfl) (zB8 (j:=12) (by kernel_rfl) rfl rfl) (zB8 (j:=14) (by kernel_rfl) rfl rfl) (fun _ _ _ hx hy=>⟨_,by rw [hx,hy];exact zW6 underlying48 (by kernel_rfl) hk1 _,rfl⟩)) ?_;refine zA (zC rfl (zB7 rfl) (zB8 (j:=15) (by kernel_rfl) rfl rfl) (fun w2 hb=>qN5 underlying60 rfl (by kernel_rfl) ((hb.cell (World.block_lt_of_cell? wi _ p30)).trans p30) ((hb.cell (World.block_lt_of_cell? wi _ p31)).trans p31)) (fun _ _=>rfl)) ?_;refine zA (zD0 rfl func56 (by kernel_rfl) (zB7 rfl) (zB8 (j:=11) (by kernel_rfl) rfl rfl) (zB8 (j:=16) (by kernel_rfl) rfl rfl) (fun w2 u0 u1 hb h0 h1=>by obtain rfl:=h0;obtain rfl:=h1;exact (CY w2 _ _ (kx0.drew.below hb) (ky1.drew.below hb)).mono fun e w3 h=>zF.pd h hb.size)) ?_;refine zA (zD0 rfl func147 (by kernel_rfl) (zB7 rfl) (zB8 (j:=8) (by kernel_rfl) rfl rfl) (zB8 (j:=17) (by kernel_rfl) rfl rfl) (fun w2 u0 u1 hb h0 h1=>(CS w2 _ _ h0.1 h1.1).mono fun e w3 h=>zF.pd h hb.size)) ?_;refine zA (zN2 (z:=.agg #[.bool false,.slice none 0 0]) rfl rfl (fun _=>by kernel_rfl) (fun _ _ hB h=>⟨_,rfl,hB,h⟩)) ?_
     trivial
    case done1 =>
     refine fun w7 hb7 v0 h0 v1 h1 v2 h2 v3 h3 v4 h4 v5 h5 v6 h6 v7 h7 v8 h8 v9 h9 v10 h10 v11 h11 v12 h12 v13 h13 v14 h14 v15 h15 v16 h16 v17 h17 v18 h18 v19 h19 d9 b hbf => ?_;obtain rfl:=h0;obtain rfl:=h1;obtain rfl:=h2;obtain rfl:=h3;obtain rfl:=h4;obtain rfl:=h5;obtain rfl:=h6;obtain rfl:=h7;obtain rfl:=h9;obtain rfl:=h10;obtain rfl:=h11;obtain rfl:=h12;obtain rfl:=h13;obtain rfl:=h14;obtain rfl:=h15;obtain rfl:=h16;obtain ⟨g9,rfl,hg9,B9⟩:=h19;obtain ⟨k18,f18⟩:=h18;simp only [Act.put,zA0,zA2,zA1] at hbf;subst hbf;have bw7:Below wi.heap.size wi w7:=(Below.refl wi.heap.size wi).trans (hb7.mono (zB4 _));obtain ⟨u8,rfl,s8⟩:=k18;obtain ⟨A8,c8,rfl,_⟩:=id s8;refine zI (i:=20) (by kernel_rfl) rfl rfl rfl rfl rfl rfl (cells:=[.bool (ngB Z),.slice A8 (digs 4294967296 Z.natAbs).length c8]) rfl B9 rfl (by kernel_rfl) (zG6 rfl rfl) fun w10 hg10 BN => ?_;have s10:=Go.Proofs.YtagaabooccnamaaGreat.flow.off s8 B9 no_ints2 hg10;have bw10:=bw7.grown hg10 bw7.size (fun k e=>by injection e with e;omega);have HC:=hQ9 (zA bw10 s10);clear s8 B9 bw7 bw10 s10 h8 h17 f18 CX CY CS CE kx0 kx1 ky0 ky1 p00 p01 p10 p11 p20 p21 p30 p31;refine zF8 (by kernel_rfl) ?_;go_wp2
     go_meet
     exact ⟨g9,_,rfl,hg9,BN,HC.out.2,HC.out.1⟩
   case rest =>
    obtain ⟨g9,u9,rfl,hg9,B9,s9,HB9⟩:=hcut;obtain ⟨w7,hw7⟩:∃ w7,w7=wc:=⟨_,rfl⟩;subst hw7;obtain ⟨A9,c9,rfl,_⟩:=id s9;have rk7:=rk.below HB9.out;have HB7:Hid (Below wx.heap.size wx w7):=HB.out.trans (HB9.out.mono HB.out.size);have B27:=B2.below HB7.out;have t27:=t2.below HB7.out;obtain ⟨V0,V1,F0,F1⟩:=Blk.two B9;obtain ⟨U0,U1,G0,G1⟩:=Blk.two B27;have hix:=fun w=>yK6 (P:=prog) underlying48 (by kernel_rfl) (g:=wx.heap.size) (c:=m) hlt w;clear B9 B27 HB HB9 CX CY CS kx0 kx1 ky0 ky1 p00 p01 p10 p11 p20 p21 p30 p31 rk
    go_wp2_with fail
    refine (CE _ _ _ ⟨_,rfl,s9⟩ ⟨_,rfl,t27⟩).mono ?_;rintro e w8 ⟨v8,rfl,k8,-,b8⟩;obtain ⟨u8,rfl,s8⟩:=k8;obtain ⟨A8,c8,rfl,_⟩:=id s8;have rk8:=rk7.below b8;obtain ⟨X8,Y8,P0,P1,Q0,Q1⟩:=rk8.places hlt;obtain ⟨G8,R8⟩:=rk8.set2 (by rw [HTL.out];exact hlt) s8;rw [HTL.out] at G8 R8;rw [<- HT.out] at R8;rw [Nat.zero_add] at P0 P1 Q0 Q1 G8 R8;have h8:=HB7.out.trans (b8.mono HB7.out.size);have h9:=h8.grown G8 h8.size (fun g e=>by injection e with e;omega);have HB8:=hQ9 h9;clear h8 h9;clear rk7 rk8 G8 HB7 V0 V1 F0 F1 U0 U1 G0 G1 s9 t27 s8 b8 CE;go_wp2;go_roundw;case rel=>exact ⟨k+1,by omega,R8,HB8,by go_num⟩
    case measure=>simp [intOf];omega
  ·obtain rfl:k=m:=by omega
   have hzt:zs.take k=zs:=zA7 (by rw [HZ.out];exact zB4 _);rw [hzt] at rk;go_wp2;go_ret;exact ⟨_,by rw [HZ.out];rfl,by rw [HZ.out];exact rk,hgw,HBA.out.trans (HB.out.mono HBA.out.size)⟩
end Go.Proofs.YtagaabooccnamaaGreat.rat
