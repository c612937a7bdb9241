/- Rows of whole numbers as pairs: a whole row, or a part of one, put behind another one; a number written in place. Condition: as each says. -/
import Derived.Test.YtagaabooccnamaaGreatKC6
import Derived.Lib.AppendZerosOnto
import Derived.Shelf.Abstract
import Derived.Deep.RegionHeld
import Derived.Deep.RegionHeld3
open Go.Proofs.Tryz
open Go.Lib renaming hid -> hQ9
set_option linter.unusedVariables false
set_option linter.unusedSimpArgs false
set_option maxRecDepth 100000
set_option maxHeartbeats 12800000
open And renaming intro -> zA
open List renaming set_cons_zero -> zA2, getElem?_eq_getElem -> zA3, getElem?_eq_some_iff -> zA4, mem_of_getElem? -> zA5, getD_eq_getElem?_getD -> zA6, take_of_length_le -> zA7, length_append -> zA8, length_map -> zA9, replicate -> zB, getElem?_append_left -> zB0
open Nat renaming le_refl -> zB1, le_trans -> zB2
open Go.World renaming block_lt_of_cell? -> bQ0
open Classical renaming byContradiction -> bQ1
open List renaming getElem?_set_self -> bQ3, length_set -> bQ5, length_take -> bQ7, getElem?_map -> bQ8, take_add_one -> bQ9, getElem?_append_right -> bW0, getElem?_set_ne -> bW1, mem_or_eq_of_mem_set -> bW3, length_replicate -> bW7, getElem?_toArray -> bW8, getElem?_drop -> bW9, ext_getElem? -> bX0, length_drop -> bX2, map_append -> bX5, take_zero -> bX6, map_toArray -> bX7
open Nat renaming pow_le_pow_right -> bX9, mul_comm -> bY0, lt_of_lt_of_le -> bY2, eq_zero_or_pos -> bY3, mul_le_mul_right -> bY4, zero_add -> bY5, mul_le_mul -> bY6
namespace Go.Proofs.YtagaabooccnamaaGreat
namespace rat
open Go.RowKit num mem nat txt str flow whl
def SlP (w:World) (v:Value) (ps:List (Int × Value)):Prop:=∃ A c,v=.slice A ps.length c/\ps.length<=c/\c<=maxLen /\ ∀ (i:Nat) (p:Int × Value),ps[i]?=some p -> ∃ g o,A=some ⟨g,o,none⟩/\w.cell? ⟨g,o+i*2,none⟩=some (.bool (ngB p.1))/\w.cell? ⟨g,o+i*2+1,none⟩=some p.2
def zI8 (k:IntKind) (B:Nat) (w:World) (ps:List (Int × Value)):Prop:=∀ p∈ps,IsS w k p.2 (digs B p.1.natAbs)
theorem SlZ.pairs {k:IntKind} {B:Nat} {w:World} {v:Value} {zs:List Int} (h:SlZ k B w v zs):∃ ps:List (Int × Value),ps.map (·.1)=zs/\SlP w v ps/\zI8 k B w ps:=by
  obtain ⟨A,c,rfl,h2,h3,h4⟩:=h
  have h5:∀ i:Nat,∃ u:Value,∀ z,zs[i]?=some z -> ∃ g o,A=some ⟨g,o,none⟩/\w.cell? ⟨g,o+i*2,none⟩=some (.bool (ngB z))/\w.cell? ⟨g,o+i*2+1,none⟩=some u/\IsS w k u (digs B z.natAbs):=fun i=>by
    cases hz:zs[i]? with
    | none=>exact ⟨.bool false,fun z h=>by cases h⟩
    | some z =>
      obtain ⟨g,o,u,h⟩:=h4 i z hz;exact ⟨u,fun z' h'=>by injection h' with h';subst h';exact ⟨g,o,h⟩⟩
  obtain ⟨f,hf⟩:=Classical.axiomOfChoice h5;obtain ⟨ps,hps⟩:∃ ps:List (Int × Value),ps=(List.range zs.length).map fun i=>(zs.getD i 0,f i):=⟨_,rfl⟩;have hl:ps.length=zs.length:=by rw [hps];simp
  have at_:∀ (i:Nat) (p:Int × Value),ps[i]?=some p->zs[i]?=some p.1/\p.2=f i:=fun i p hp=>by
    have hi:=(zA4.1 hp).1;rw [hl] at hi;rw [hps,bQ8,List.getElem?_range hi] at hp;injection hp with hp;subst hp;refine ⟨?_,rfl⟩;show zs[i]?=some (zs.getD i 0)
    rw [zA6,zA3 hi];rfl
  refine ⟨ps,?_,⟨A,c,by rw [hl],by rw [hl];exact h2,h3,fun i p hp => ?_⟩,fun p hp => ?_⟩
  · refine bX0 fun i => ?_;rw [bQ8]
    cases hp:ps[i]? with
    | none =>
      have h6:¬ i<ps.length:=fun h=>by rw [zA3 h] at hp;cases hp
      rw [List.getElem?_eq_none (by omega)];rfl
    | some p=>rw [(at_ i p hp).1];rfl
  · obtain ⟨h6,h7⟩:=at_ i p hp;obtain ⟨g,o,e,c0,c1,_⟩:=hf i _ h6;exact ⟨g,o,e,c0,by rw [h7];exact c1⟩
  · obtain ⟨i,hi⟩:=List.mem_iff_getElem?.1 hp;obtain ⟨h6,h7⟩:=at_ i p hi;obtain ⟨g,o,e,c0,c1,s⟩:=hf i _ h6;rw [h7];exact s
theorem zI8.sl {k:IntKind} {B:Nat} {w:World} {ps:List (Int × Value)} (h:zI8 k B w ps):qC1 ps:=fun p hp=>by
 obtain ⟨A,c,e,_⟩:=h p hp;exact ⟨A,_,c,e⟩
theorem zI8.bQ {k:IntKind} {B:Nat} {w w':World} {ps:List (Int × Value)} (h:zI8 k B w ps) (hb:Below w.heap.size w w'):zI8 k B w' ps:=fun p hp=>(h p hp).bQ hb
theorem zI8.append {k:IntKind} {B:Nat} {w:World} {ps qs:List (Int × Value)} (h:zI8 k B w ps) (h':zI8 k B w qs):zI8 k B w (ps ++ qs):=fun p hp=>by
 rcases List.mem_append.1 hp with hp | hp
 ·exact h p hp
 ·exact h' p hp
theorem zI8.nil {k:IntKind} {B:Nat} {w:World} : zI8 k B w []:=fun p hp=>by simp at hp
theorem SlP.bQ {w w':World} {v:Value} {ps:List (Int × Value)} (h:SlP w v ps) (hb:Below w.heap.size w w'):SlP w' v ps:=by
 obtain ⟨A,c,e,h1,h2,h3⟩:=h;refine ⟨A,c,e,h1,h2,fun i p hp => ?_⟩;obtain ⟨g,o,e2,c0,c1⟩:=h3 i p hp;exact ⟨g,o,e2,(hb.cell (bQ0 w _ c0)).trans c0,(hb.cell (bQ0 w _ c1)).trans c1⟩
theorem SlP.sl {k:IntKind} {B:Nat} {w:World} {v:Value} {ps:List (Int × Value)} (h:SlP w v ps) (hs:zI8 k B w ps):SlZ k B w v (ps.map (·.1)):=by
  obtain ⟨A,c,e,h1,h2,h3⟩:=h;refine ⟨A,c,by rw [zA9];exact e,by rw [zA9];exact h1,h2,fun i z hz => ?_⟩;rw [bQ8] at hz
  cases hp:ps[i]? with
  | none=>rw [hp] at hz;cases hz
  | some p =>
    rw [hp] at hz;obtain rfl:p.1=z:=by simpa using hz
    obtain ⟨g,o,e2,c0,c1⟩:=h3 i p hp;exact ⟨g,o,_,e2,c0,c1,hs p (zA5 hp)⟩
theorem yL3:∀ (ps:List (Int × Value)) (j:Nat) (u:Value),(zF ps)[j]?=some u -> ∃ i p,ps[i]?=some p/\((j=i*2/\u=.bool (ngB p.1))\/(j=i*2+1/\u=p.2))
  | [],j,u,h=>by simp [zF] at h
  | p :: ps,0,u,h=>⟨0,p,rfl,.inl ⟨rfl,by simpa [zX] using h.symm⟩⟩
  | p :: ps,1,u,h=>⟨0,p,rfl,.inr ⟨rfl,by simpa [zX] using h.symm⟩⟩
  | p :: ps, j + 2, u, h => by
    have e:(zF (p :: ps))[j+2]?=(zF ps)[j]?:=by rw [zX];simp
    rw [e] at h;obtain ⟨i,q,hq,h2⟩:=yL3 ps j u h;refine ⟨i+1,q,by simpa using hq,?_⟩;rcases h2 with ⟨a,b⟩|⟨a,b⟩
    · exact .inl ⟨by omega,b⟩
    · exact .inr ⟨by omega,b⟩
theorem SlP.flatAt {w:World} {A:Option Addr} {n c:Nat} {ps:List (Int × Value)} (h:SlP w (.slice A n c) ps) (hne:ps≠[]):∃ ad,A=some ad /\ ∀ (i:Nat) (u:Value),(zF ps)[i]?=some u->w.cell? (ad.add i)=some u:=by
 obtain ⟨A',c',e,h1,h2,h3⟩:=h;injection e with e1 e2 e3;subst e1;subst e2;subst e3;obtain ⟨p0,hp0⟩:∃ p0,ps[0]?=some p0:=⟨_,zA3 (List.length_pos_iff.2 hne)⟩;obtain ⟨g0,o0,rfl,_⟩:=h3 0 p0 hp0;refine ⟨_,rfl,fun j a ha => ?_⟩;obtain ⟨k,p,hp,h⟩:=yL3 ps j a ha;obtain ⟨g',o',e,c0,c1⟩:=h3 k p hp;injection e with e;injection e with e1 e2;subst e1;subst e2;rw [qW1];rcases h with ⟨rfl,rfl⟩|⟨rfl,rfl⟩
 ·exact c0
 ·rw [<- Nat.add_assoc];exact c1
section
variable {P:Program}
theorem jK {w:World} {base:Nat} {t ty e:TypeId} (hT:P.underlying t=some (.slice e)) (hI:∃ i,P.info? e=some i/\i.zero=some (.agg #[.bool false,.slice none 0 0])/\i.size=2/\i.bytes=32) {v u:Value} {ps qs:List (Int × Value)} (hown:zH1 e w base v ps) (hu:SlP w u qs) (h1:qC1 qs) (hlen:ps.length+qs.length<=1000000000) (hbase:base<=w.heap.size) :
  ∃ v' w',(Builtin.append_ #[t,t] ty #[v,u]).run P w=.ok v' w'/\zH1 e w' base v' (ps ++ qs)/\w.grownBy w' v.ownBlock/\(v'.ownBlock=v.ownBlock\/v'.ownBlock=some w.heap.size):=by
 obtain ⟨A,c,rfl,hc,hm⟩:=id hu;by_cases hq:qs=[]
 ·subst hq;obtain ⟨i,hi,hz,hs,hb⟩:=hI
  have hcv:∃ Av cv,v=.slice Av ps.length cv/\ps.length<=cv:=by
   rcases hown.1.2 with ⟨e1,h0⟩|⟨g,cap,cur,e1,_,_,hn,_⟩
   ·exact ⟨none,0,by rw [e1,h0],by omega⟩
   ·exact ⟨_,cap,e1,hn⟩
  obtain ⟨Av,cv,rfl,hcv⟩:=hcv;refine ⟨_,w,?_,by rw [List.append_nil];exact hown,qW2 _ _,.inl rfl⟩;cases A<;>cases Av<;>simp [Builtin.append_,go_sem,run_underlying hT,sizeOf,typeInfo,hi,Builtin.lenOf,Builtin.firstCells,hcv,storeCells]
 ·obtain ⟨ad,rfl,hr⟩:=hu.flatAt hq;exact jI6 hT hI hown rfl (List.length_pos_iff.2 hq) hr h1 hlen hbase
theorem jK0 {w:World} {o:Oper} {a:Act} {K:Act->World->Prop} {Q:Exit->Act->World->Prop} (s x:Operand) {t:TypeId}
  (ho:o.op=.call { callee:=.builtin .append,args:=#[s,x],argTypes:=#[t,t] })
  {base:Nat} {e:TypeId} (hT:P.underlying t=some (.slice e)) (hI:∃ i,P.info? e=some i/\i.zero=some (.agg #[.bool false,.slice none 0 0])/\i.size=2/\i.bytes=32) {v u:Value} {ps qs:List (Int × Value)} (hs:a.eval s=v) (hown:zH1 e w base v ps) (hx:a.eval x=u) (hu:SlP w u qs) (h1:qC1 qs) (hlen:ps.length+qs.length<=1000000000) (hbase:base<=w.heap.size)
  (h:∀ v' w',zH1 e w' base v' (ps ++ qs)->Hid (w.grownBy w' v.ownBlock)->Hid (v'.ownBlock=v.ownBlock\/v'.ownBlock=some w.heap.size)->K (a.put o.dst v') w'):o.wp P a w K Q:=by
 obtain ⟨v',w',hrun,h2,h3,h4⟩:=jK (P:=P) (ty:=o.type) hT hI hown hu h1 hlen hbase;unfold Oper.wp execOp;simp only [ho,resolve,invoke,builtin,Sem.run_bind,Sem.run_pure,Result.andThen_ok,bX7,List.map_cons,List.map_nil,hs,hx,hrun];exact h v' w' h2 h3 h4
theorem jK1 {w:World} {ops:Array Oper} {rest:List Oper} {o:Oper} {a:Act} {Q:Exit->Act->World->Prop} (hgd:o.guard=none) (s x:Operand) {t:TypeId}
  (ho:o.op=.call { callee:=.builtin .append,args:=#[s,x],argTypes:=#[t,t] })
  {base:Nat} {e:TypeId} (hT:P.underlying t=some (.slice e)) (hI:∃ i,P.info? e=some i/\i.zero=some (.agg #[.bool false,.slice none 0 0])/\i.size=2/\i.bytes=32) {v u:Value} {ps qs:List (Int × Value)} (hs:a.eval s=v) (hown:zH1 e w base v ps) (hx:a.eval x=u) (hu:SlP w u qs) (h1:qC1 qs) (hlen:ps.length+qs.length<=1000000000) (hbase:base<=w.heap.size)
  (h:∀ v' w',zH1 e w' base v' (ps ++ qs)->Hid (w.grownBy w' v.ownBlock)->Hid (v'.ownBlock=v.ownBlock\/v'.ownBlock=some w.heap.size)->wpList P ops Q rest (a.put o.dst v') w'):wpList P ops Q (o :: rest) a w :=
 wpList_plain hgd fun _ hK=>jK0 s x ho hT hI hs hown hx hu h1 hlen hbase fun v' w' h2 h3 h4=>hK _ _ (h v' w' h2 h3 h4)
end
theorem zH1.slP {e:TypeId} {w:World} {base:Nat} {v:Value} {ps:List (Int × Value)} (h:zH1 e w base v ps):SlP w v ps:=by
 rcases h.1.2 with ⟨rfl,h0⟩|⟨g,cap,cur,rfl,_,hg,hn,hm,_,_⟩
 ·obtain rfl:ps=[]:=List.length_eq_zero_iff.1 h0;exact ⟨none,0,rfl,zB1 _,Nat.zero_le _,fun i p hp=>by simp at hp⟩
 ·refine ⟨some ⟨g,0,none⟩,cap,rfl,hn,hm,fun i p hp => ?_⟩;obtain ⟨f0,f1⟩:=qM ps i p hp;have k0:=World.ownsRow.cells h.1 (g:=g) rfl _ _ f0;have k1:=World.ownsRow.cells h.1 (g:=g) rfl _ _ f1;rw [zR9] at k0 k1;exact ⟨g,0,rfl,by rw [bY5];exact k0,by rw [bY5];exact k1⟩
theorem zH1.keepN {e:TypeId} {w w':World} {base:Nat} {V:Value} {ps qs:List (Int × Value)} {k:IntKind} {B:Nat} (h:zH1 e w base V ps) (hg:w.grownBy w' V.ownBlock) (hs:zI8 k B w qs):zI8 k B w' qs:=fun p hp=>h.keepS hg (hs p hp)
theorem cell_ne {w:World} {a b:Addr} {c d:Value} (ha:w.cell? a=some c) (hb:w.cell? b=some d) (hn:c≠d):a≠b:=fun e=>by
 subst e;rw [ha] at hb;injection hb with hb;exact hn hb
theorem zX2 {w:World} {a b:Addr} {x:Value} (h:a≠b):(w.setCell a x).cell? b=w.cell? b:=by
 rw [World.cell?_setCell_other];exact h
theorem yL4 {w:World} {a:Addr} {x u:Value} (h:w.cell? a=some u):(w.setCell a x).cell? a=some x:=by
 apply World.cell?_setCell_same;exact h
theorem IsS.put {w:World} {k:IntKind} {v:Value} {l:List Nat} {a:Addr} {x c:Value} (h:IsS w k v l) (hc:w.cell? a=some c) (hn:∀ n,c ≠ .int k n):IsS (w.setCell a x) k v l:=by
 obtain ⟨A,cc,rfl,h1,h2,h3⟩:=h;refine ⟨A,cc,rfl,h1,h2,fun i d hd => ?_⟩;obtain ⟨ad,rfl,hq⟩:=h3 i d hd;refine ⟨ad,rfl,?_⟩;rw [zX2 (cell_ne hc hq (hn _))];exact hq
section
variable {w:World} {g o:Nat} {b0:Bool} {A0:Option Addr} {n0 c0:Nat} {x y:Value}
theorem off1 (g o:Nat):(⟨g,o,none⟩:Addr)≠⟨g,o+1,none⟩:=fun e=>by injection e with _ e;omega
theorem IsS.put2 {k:IntKind} {v:Value} {l:List Nat} (h:IsS w k v l) (k0:w.cell? ⟨g,o,none⟩=some (.bool b0)) (k1:w.cell? ⟨g,o+1,none⟩=some (.slice A0 n0 c0)):IsS ((w.setCell ⟨g,o,none⟩ x).setCell ⟨g,o+1,none⟩ y) k v l :=
 rat.IsS.put (rat.IsS.put h k0 (fun n=>by simp)) (c:=.slice A0 n0 c0) (by rw [zX2 (off1 g o)];exact k1) (fun n=>by simp)
theorem qW7 (w:World) (g o:Nat) (x y:Value):w.grownBy ((w.setCell ⟨g,o,none⟩ x).setCell ⟨g,o+1,none⟩ y) (some g):=(zE9 w g o x).trans (zE9 _ g (o+1) y)
theorem SlZ.put2 {k:IntKind} {B:Nat} {v:Value} {zs:List Int} (h:SlZ k B w v zs) (hne:v.ownBlock≠some g) (k0:w.cell? ⟨g,o,none⟩=some (.bool b0)) (k1:w.cell? ⟨g,o+1,none⟩=some (.slice A0 n0 c0)):SlZ k B ((w.setCell ⟨g,o,none⟩ x).setCell ⟨g,o+1,none⟩ y) v zs:=by
 obtain ⟨A,c,rfl,h2,h3,h4⟩:=h;refine ⟨A,c,rfl,h2,h3,fun i z hz => ?_⟩;obtain ⟨g',o',u,rfl,c0',c1',s⟩:=h4 i z hz;have hne':some g'≠some g:=fun e=>hne (by simpa [Value.ownBlock] using e);have hg:=qW7 w g o x y;exact ⟨g',o',u,rfl,hg.cell c0' hne',hg.cell c1' hne',rat.IsS.put2 s k0 k1⟩
theorem SlZ.setZ {k:IntKind} {B:Nat} {zs:List Int} {n c j:Nat} {z:Int} {u:Value} (h:SlZ k B w (.slice (some ⟨g,o,none⟩) n c) zs) (hj:j<zs.length) (hu:IsS w k u (digs B z.natAbs)):SlZ k B ((w.setCell ⟨g,o+j*2,none⟩ (.bool (ngB z))).setCell ⟨g,o+j*2+1,none⟩ u) (.slice (some ⟨g,o,none⟩) n c) (zs.set j z):=by
 obtain ⟨u0,hjn,p0,p1,s0⟩:=h.at2 (zA3 hj);obtain ⟨As,cs,rfl,_⟩:=id s0;obtain ⟨A,c',e,h2,h3,h4⟩:=h;injection e with e1 e2 e3;subst e1;subst e2;subst e3;refine ⟨_,_,by rw [bQ5],by rw [bQ5];exact h2,h3,fun i z' hz => ?_⟩;by_cases hi:j=i
 ·subst hi;rw [bQ3 hj] at hz;injection hz with hz;subst hz;refine ⟨g,o,u,rfl,?_,?_,rat.IsS.put2 hu p0 p1⟩
  ·rw [zX2 (fun e=>off1 g (o+j*2) e.symm),yL4 p0]
  ·exact yL4 (u:=.slice As (digs B (zs[j]).natAbs).length cs) (by rw [zX2 (off1 g (o+j*2))];exact p1)
 ·rw [bW1 hi] at hz;obtain ⟨g',o',u',e,c0',c1',s⟩:=h4 i z' hz;injection e with e;injection e with e4 e5;subst e4;subst e5;have d:∀ p q:Nat,p≠q->(⟨g,p,none⟩:Addr)≠⟨g,q,none⟩:=fun p q hn e=>by injection e with _ e;exact hn e
  refine ⟨g,o,u',rfl,?_,?_,rat.IsS.put2 s p0 p1⟩
  ·rw [zX2 (d _ _ (by omega)),zX2 (d _ _ (by omega))];exact c0'
  ·rw [zX2 (d _ _ (by omega)),zX2 (d _ _ (by omega))];exact c1'
end
theorem zE2.setZ {B B0:Nat} {w:World} {g gr o n c i j:Nat} {TS:TypeId} {us:List Value} {T:List (List Int)} {r:List Int} {z:Int} {u:Value} (h:zE2 .u64 B w g TS us T) (ha:Apt w B0 us) (hu:us[i]?=some (.slice (some ⟨gr,o,none⟩) n c)) (hr:T[i]?=some r) (hj:j<r.length) (hs:IsS w .u64 u (digs B z.natAbs)) :
  zE2 .u64 B ((w.setCell ⟨gr,o+j*2,none⟩ (.bool (ngB z))).setCell ⟨gr,o+j*2+1,none⟩ u) g TS us (T.set i (r.set j z))/\gr≠g:=by
 have sr:=h.2.2 i _ r hu hr;obtain ⟨u0,hjn,p0,p1,s0⟩:=sr.at2 (zA3 hj);obtain ⟨As,cs,rfl,_⟩:=id s0
 have hne:gr≠g:=by
  intro e;subst e;rw [h.1.1.cell,bW8] at p0;obtain ⟨A',m,d,e4⟩:=h.1.2 _ (zA5 p0);cases e4
 refine ⟨⟨⟨Blk.grown h.1.1 (qW7 w gr (o+j*2) _ _) (fun e=>hne e.symm),h.1.2⟩,by rw [bQ5];exact h.2.1,fun l x y hx hy => ?_⟩,hne⟩;by_cases hl:i=l
 ·subst hl;rw [bQ3 (zA4.1 hr).1] at hy;injection hy with hy;subst hy;rw [hu] at hx;injection hx with hx;subst hx;exact sr.setZ hj hs
 ·rw [bW1 hl] at hy;exact (h.2.2 l x y hx hy).put2 (fun e=>ha.2 i l _ x hl hu hx gr rfl e) p0 p1
theorem zH1.mono {e:TypeId} {w:World} {base base':Nat} {v:Value} {ps:List (Int × Value)} (h:zH1 e w base v ps) (hb:base'<=base):zH1 e w base' v ps:=by
 refine ⟨⟨h.1.1,?_⟩,h.2⟩;rcases h.1.2 with h1 | ⟨g,cap,cur,h1,h2,h3⟩
 ·exact .inl h1
 ·exact .inr ⟨g,cap,cur,h1,zB2 hb h2,h3⟩
theorem yL5 (n:Nat):∀ c∈Builtin.zeroCells (Value.agg #[.bool false,.slice none 0 0]).cells n,isB c:=by
 intro c hc;unfold Builtin.zeroCells at hc;rw [show (Value.agg #[.bool false,.slice none 0 0]).cells = #[.bool false,.slice none 0 0] from rfl] at hc;simp at hc;obtain ⟨j,_,rfl⟩:=hc;rcases (show j % 2=0\/j % 2=1 by omega) with e | e
 ·simp [e];exact .inl ⟨_,rfl⟩
 ·simp [e];exact .inr ⟨_,_,_,rfl⟩
theorem yL6 (n:Nat):(Builtin.zeroCells (Value.agg #[.bool false,.slice none 0 0]).cells n).size=n*2:=by
 unfold Builtin.zeroCells;rw [show (Value.agg #[.bool false,.slice none 0 0]).cells = #[.bool false,.slice none 0 0] from rfl];simp
section
variable {P:Program}
theorem jK2 {w:World} {t tn ty e:TypeId} {kn:IntKind} (hT:P.underlying t=some (.slice e)) (htn:P.underlying tn=some (.int kn)) (hI:∃ i,P.info? e=some i/\i.zero=some (.agg #[.bool false,.slice none 0 0])/\i.size=2/\i.bytes=32) {k:Nat} (h0:0<k) (hk:k<=1000000) :
  ∃ cap w',(Builtin.append_ #[t,tn] ty #[.slice none 0 0,.int .i64 (k:Int)]).run P w=.ok (.slice (some ⟨w.heap.size,0,none⟩) k cap) w'/\k<=cap/\zH1 e w' w.heap.size (.slice (some ⟨w.heap.size,0,none⟩) 0 cap) []/\Below w.heap.size w w':=by
 obtain ⟨i,hi,hz,hs,hb⟩:=hI;have h:=Go.Lib.run_append_grow_zeros (P:=P) w t tn ty e i (.agg #[.bool false,.slice none 0 0]) .i64 kn hT htn hi hz none 0 0 [] (by exact run_firstCells_none w.drew i.size 0 0 0) k h0 (by omega) (by omega) (by omega) (by rw [hb];omega) (growslice_fits (by omega) (by rw [hb];omega));obtain ⟨C,hC⟩:∃ C,C=grownCap w (0+k) 0 e:=⟨_,rfl⟩;have hC1:k<=C:=by rw [hC];have:=grownCap_ge w (0+k) 0 e;omega
 have hC2:C<=maxLen:=by rw [hC];exact grownCap_le_maxLen w (0+k) 0 e (by unfold maxLen;omega)
 rw [<- hC,bY5] at h;refine ⟨C,_,h,hC1,⟨⟨rfl,.inr ⟨w.heap.size,C,_,rfl,zB1 _,heap_alloc_new w.drew _,Nat.zero_le _,hC2,?_,by simp [zF]⟩⟩,fun g hg => ?_⟩,((Below.refl w.heap.size w).drew).trans (zC6 (w:=w.drew) (zB1 _) _)⟩
 ·rw [Array.size_append,Array.size_append,yL6,yL6];simp;omega
 ·obtain rfl:w.heap.size=g:=by simpa [Value.ownBlock] using hg
  refine ⟨_,heap_alloc_new w.drew _,fun c hc => ?_⟩;rcases Array.mem_append.1 hc with hc | hc
  ·rcases Array.mem_append.1 hc with hc | hc
   ·simp at hc
   ·exact yL5 _ c hc
  ·exact yL5 _ c hc
theorem jK3 {w:World} {ops:Array Oper} {rest:List Oper} {o:Oper} {a:Act} {Q:Exit->Act->World->Prop} (hgd:o.guard=none) (s x:Operand) {t tn:TypeId} {kn:IntKind}
  (ho:o.op=.call { callee:=.builtin .append,args:=#[s,x],argTypes:=#[t,tn] })
  {e:TypeId} (hT:P.underlying t=some (.slice e)) (htn:P.underlying tn=some (.int kn)) (hI:∃ i,P.info? e=some i/\i.zero=some (.agg #[.bool false,.slice none 0 0])/\i.size=2/\i.bytes=32) {k:Nat} (hs:a.eval s=.slice none 0 0) (hx:a.eval x=.int .i64 (k:Int)) (h0:0<k) (hk:k<=1000000)
  (h:∀ cap w',k<=cap->zH1 e w' w.heap.size (.slice (some ⟨w.heap.size,0,none⟩) 0 cap) []->Below w.heap.size w w'->wpList P ops Q rest (a.put o.dst (.slice (some ⟨w.heap.size,0,none⟩) k cap)) w'):wpList P ops Q (o :: rest) a w :=
 wpList_plain hgd fun _ hK=>by
  obtain ⟨cap,w',hrun,h2,h3,h4⟩:=jK2 (P:=P) (w:=w) (ty:=o.type) hT htn hI h0 hk;unfold Oper.wp execOp;simp only [ho,resolve,invoke,builtin,Sem.run_bind,Sem.run_pure,Result.andThen_ok,bX7,List.map_cons,List.map_nil,hs,hx,hrun];exact hK _ _ (h cap w' h2 h3 h4)
end
theorem jK4 (n:Nat) (w:World) (hn:n<=1000000):Calls prog 116 #[.slice none 0 0,.int .i64 (n:Int)] w (fun e w' => ∃ V,e=.returned V/\zH1 60 w' w.heap.size V []/\Below w.heap.size w w'):=by
 by_cases h0:0<n
 ·go_enter func116,ntmps116
  go_wp2_with (at_builtin;refine jK3 rfl (.tmp 20) (.tmp 21) rfl underlying48 underlying3 whl.info_int (k:=n) rfl (by first | rfl | simp) h0 hn ?_;intro cap w2 hcap R2 b2)
  go_wp2;go_ret;exact ⟨_,rfl,R2,b2⟩
 ·obtain rfl:n=0:=by omega
  go_enter func116,ntmps116
  go_wp2;go_ret;exact ⟨_,rfl,jI5 _ _ _,Below.refl _ _⟩
theorem qW8 {α : Type} {l:List (List α)} {k:Nat} {x:List α} (h:l[k]?=some x):(l.take (k+1)).flatten=(l.take k).flatten ++ x:=by rw [bQ9,h];simp
theorem zZ4 {α : Type} {l:List (List α)} {k:Nat} {x:List α} (h:l[k]?=some x):((l.take (k+1)).flatten).length=((l.take k).flatten).length+x.length:=by rw [qW8 h,zA8]
theorem yL7 {α : Type} {l:List (List α)} {m:Nat} (h:∀ x∈l,x.length<=m):∀ k,((l.take k).flatten).length<=k*m:=by
  intro k
  induction k with
  | zero=>simp
  | succ k ih =>
    cases hk:l[k]? with
    | none=>rw [bQ9,hk];simp;rw [Nat.succ_mul];have:=ih;simp at this;omega
    | some x=>rw [zZ4 hk,Nat.succ_mul];have:=h x (zA5 hk);omega
theorem jK5 (V:Value) (vs:List Value) (pss:List (List (Int × Value))) (w:World) (hV:IsV w V vs) (hl:vs.length=pss.length) (hp:∀ (i:Nat) (v:Value) (ps:List (Int × Value)),vs[i]?=some v->pss[i]?=some ps->SlP w v ps/\zI8 .u64 4294967296 w ps) (hn:pss.length<=10) (hs:∀ ps∈pss,ps.length<=1000) :
  Calls prog 72 #[V] w (fun e w' => ∃ V',e=.returned V'/\zH1 60 w' w.heap.size V' pss.flatten/\zI8 .u64 4294967296 w' pss.flatten/\Below w.heap.size w w'):=by
 obtain ⟨A,c,rfl,hc,hcells⟩:=hV;have HC:=hQ9 hcells;have HP:=hQ9 hp;have HL:=hQ9 hl;obtain ⟨n,hnv⟩:∃ n,n=vs.length:=⟨_,rfl⟩;rw [<- hnv] at hl hc |-;have HN:Hid (n=vs.length/\n=pss.length/\n<=10):=⟨hnv,by omega,by omega⟩;have HB:=hQ9 (yL7 hs);have hn10:n<=10:=HN.out.2.2;clear hcells hp hs hnv hl hn
 go_enter func72,ntmps72
 go_wp2
 go_loopw [3,11] (fun v3 v11 wr => ∃ k s:Nat,k<=n/\Hid (s=((pss.take k).flatten).length)/\Hid (Below w.heap.size w wr)/\v3=.int .i64 (s:Int)/\v11=.int .i64 (k:Int)) (fun _ v11 _=>n-(intOf v11).toNat)
 case atStart =>
  have H0:Hid (0=((pss.take 0).flatten).length):=by show _=_;simp
  exact ⟨0,0,by omega,H0,Below.refl _ _,rfl,rfl⟩
 case round =>
  obtain ⟨k,s,hk,HS,HBw,rfl,rfl⟩:=hrel;obtain ⟨wo,hwo⟩:∃ wo,wo=wr:=⟨_,rfl⟩;subst hwo;have hsb:s<=10000:=by have h1:=HB.out k;have h2:=HS.out;have h3:=HN.out;have:k*1000<=10*1000:=bY4 _ (by omega);omega
  by_cases hlt:k<n
  ·obtain ⟨v,hv⟩:∃ v,vs[k]?=some v:=⟨_,zA3 (by have:=HN.out.1;omega)⟩;obtain ⟨ps,hps⟩:∃ ps,pss[k]?=some ps:=⟨_,zA3 (by have:=HN.out.2.1;omega)⟩;obtain ⟨ad,rfl,ec0⟩:=HC.out k v hv;have ec:=(HBw.out.cell (bQ0 w _ ec0)).trans ec0;obtain ⟨Av,cv,rfl,hcv,hcm,-⟩:=(HP.out k v ps hv hps).1;have hpl:ps.length<=11000:=by have h1:=HB.out (k+1);rw [zZ4 hps] at h1;have h3:=HN.out;have:(k+1)*1000<=11*1000:=bY4 _ (by omega);omega
   have HS2:Hid (s+ps.length=((pss.take (k+1)).flatten).length):=by show _=_;rw [zZ4 hps,<- HS.out]
   clear hv hps ec0;go_wp2;go_roundw;case rel=>exact ⟨k+1,s+ps.length,by omega,HS2,HBw,by go_num,by go_num⟩
   case measure=>simp [intOf];omega
  ·obtain rfl:n=k:=by omega
   go_wp2_with fail
   refine (jK4 s _ (by omega)).mono ?_;rintro e w2 ⟨V2,rfl,R2,b2⟩;have hbo:=HBw.out.size;have R2m:=R2.mono hbo;have HB2:Hid (Below w.heap.size w w2):=HBw.out.trans (b2.mono hbo);obtain ⟨Ar,cr,rfl⟩:=R2.slice;clear R2 b2;go_wp2
   go_loopw [6,27] (fun v6 v27 wr => ∃ k:Nat,k<=n/\zH1 60 wr w.heap.size v6 (pss.take k).flatten/\Hid (zI8 .u64 4294967296 wr (pss.take k).flatten)/\Hid (Below w.heap.size w wr)/\v27=.int .i64 (k:Int)) (fun _ v27 _=>n-(intOf v27).toNat)
   case atStart =>
    have HN0:Hid (zI8 .u64 4294967296 w2 (pss.take 0).flatten):=by show zI8 _ _ _ _;simp;exact zI8.nil
    exact ⟨0,by omega,by simpa using R2m,HN0,HB2,rfl⟩
   case round =>
    clear R2m HB2;obtain ⟨k,hk,R,HNP,HBr,rfl⟩:=hrel;obtain ⟨wi,hwi⟩:∃ wi,wi=wr:=⟨_,rfl⟩;subst hwi;obtain ⟨A6,c6,rfl⟩:=R.slice;obtain ⟨m6,hm6⟩:∃ m6,m6=((pss.take k).flatten).length:=⟨_,rfl⟩;rw [<- hm6] at R |-;have HM6:=hQ9 hm6;have hm6b:m6<=10000:=by have h1:=HB.out k;have h3:=HN.out;have:k*1000<=10*1000:=bY4 _ (by omega);omega
    clear hm6;by_cases hlt:k<n
    ·obtain ⟨v,hv⟩:∃ v,vs[k]?=some v:=⟨_,zA3 (by have:=HN.out.1;omega)⟩;obtain ⟨ps,hps⟩:∃ ps,pss[k]?=some ps:=⟨_,zA3 (by have:=HN.out.2.1;omega)⟩;obtain ⟨ad,rfl,ec0⟩:=HC.out k v hv;have ec:=(HBr.out.cell (bQ0 w _ ec0)).trans ec0;obtain ⟨sp0,np0⟩:=HP.out k v ps hv hps;have sp:=sp0.bQ HBr.out;have np:=np0.bQ HBr.out;obtain ⟨Av,cv,rfl,hcv,hcm,-⟩:=id sp;have hlen:((pss.take k).flatten).length+ps.length<=1000000000:=by have h1:=HB.out (k+1);rw [zZ4 hps] at h1;have h3:=HN.out;have:(k+1)*1000<=11*1000:=bY4 _ (by omega);omega
     have hbase:=HBr.out.size;have HF:Hid ((pss.take (k+1)).flatten=(pss.take k).flatten ++ ps):=qW8 hps;have hall:=np.sl;clear hv hps ec0 sp0 np0
     go_wp2_with (at_builtin;refine jK1 rfl (.tmp 31) (.tmp 32) rfl underlying48 whl.info_int rfl R rfl sp hall hlen hbase ?_;intro V3 w3 R3 G3 O3)
     have R4:zH1 60 w3 w.heap.size V3 (pss.take (k+1)).flatten:=by rw [HF.out];exact R3
     have HNP3:Hid (zI8 .u64 4294967296 w3 (pss.take (k+1)).flatten):=by show zI8 _ _ _ _;rw [HF.out];exact (R.keepN G3.out HNP.out).append (R.keepN G3.out np)
     have HB3:Hid (Below w.heap.size w w3):=HBr.out.trans (R.bel G3.out hbase);clear R3 R sp np HNP HBr G3 O3 ec;go_wp2;go_roundw;case rel=>exact ⟨k+1,by omega,R4,HNP3,HB3,by go_num⟩
     case measure=>simp [intOf];omega
    ·obtain rfl:k=n:=by omega
     have HT:Hid (pss.take k=pss):=zA7 (by have:=HN.out.2.1;omega);go_wp2;go_ret;exact ⟨_,rfl,by have:=R;rwa [HT.out] at this,by have:=HNP.out;rwa [HT.out] at this,HBr.out⟩
def qI6 (A B:List (List Int)):List (List Int):=List.zipWith (fun p q=>p ++ q) A B
def okS (A B:List (List Int)):Prop:=zX0 A/\qC0 B/\A.length=B.length
theorem jK6 {A B:List (List Int)} (h:A.length=B.length):(qI6 A B).length=A.length:=by unfold qI6;rw [List.length_zipWith];omega
theorem besI_at {A B:List (List Int)} {i:Nat} {p q:List Int} (ha:A[i]?=some p) (hb:B[i]?=some q):(qI6 A B)[i]?=some (p ++ q):=by
 unfold qI6;rw [List.getElem?_zipWith,ha,hb]
theorem yL8 {α : Type} {T:List α} {i:Nat} {r : α} (h:T[i]?=some r):T.set i r=T:=by
 refine bX0 fun j => ?_
 by_cases e:i=j
 ·subst e;rw [bQ3 (zA4.1 h).1,h]
 ·rw [bW1 e]
theorem zH1.bk {w:World} {base:Nat} {v:Value} {ps:List (Int × Value)} (h:zH1 60 w base v ps) {g:Nat} (hg:v.ownBlock=some g):base<=g/\zS0 w g:=by
 obtain ⟨cs,h1,_⟩:=h.2 g hg;exact ⟨(h.under g hg).1,cs,h1⟩
theorem jK7 (V x y:Value) (pa pb:List (Int × Value)) (w:World) (hV:IsV w V [x,y]) (h0:SlP w x pa) (n0:zI8 .u64 4294967296 w pa) (h1:SlP w y pb) (n1:zI8 .u64 4294967296 w pb) (l0:pa.length<=1000) (l1:pb.length<=1000) :
  Calls prog 72 #[V] w (fun e w' => ∃ V',e=.returned V'/\zH1 60 w' w.heap.size V' (pa ++ pb)/\zI8 .u64 4294967296 w' (pa ++ pb)/\Below w.heap.size w w'):=by
 have h:=jK5 V [x,y] [pa,pb] w hV rfl (fun i v ps hv hp=>by
  rcases i with _ | _ | i
  ·obtain rfl:x=v:=by simpa using hv
   obtain rfl:pa=ps:=by simpa using hp
   exact ⟨h0,n0⟩
  ·obtain rfl:y=v:=by simpa using hv
   obtain rfl:pb=ps:=by simpa using hp
   exact ⟨h1,n1⟩
  ·simp at hv) (by simp) (fun ps hps=>by simp at hps;rcases hps with rfl|rfl;exact l0;exact l1)
 simpa using h
def RetSolO (x y:Int) (w:World) (e:Ending) (w':World):Prop:=Below w.heap.size w w' /\ ∃ V v,e=.returned (.tuple #[V,v,.int .i64 0])/\SlW .u64 4294967296 w' V [[y]]/\IsZ w' v x
theorem jK8 (a0 a1:Value) (x y:Int) (w:World) (h0:SlW .u64 4294967296 w a0 [[x]]) (h1:SlW .u64 4294967296 w a1 [[y]]) (hc:Hid (x≠0/\zC5 x<=5000/\zC5 y<=5000)) :
    Calls prog 35 #[a0,a1] w (RetSolO x y w):=by
  obtain ⟨A,hA⟩:∃ A,A=[[x]]:=⟨_,rfl⟩;obtain ⟨B,hB⟩:∃ B,B=[[y]]:=⟨_,rfl⟩
  have HOK:Hid (okS A B):=by
    show _/\_/\_
    rw [hA,hB];exact ⟨⟨by show 1<=100;omega,fun r hr=>by rw [List.mem_singleton.1 hr];rfl⟩,⟨by show 1<=100;omega,fun r hr=>by rw [List.mem_singleton.1 hr];exact ⟨rfl,by show 1<=100;omega⟩⟩,rfl⟩
  rw [<- hA] at h0;rw [<- hB] at h1;have HAB:=hQ9 (zA hA hB);clear hA hB;obtain ⟨n,hn⟩:∃ n,n=A.length:=⟨_,rfl⟩;obtain ⟨m,hm⟩:∃ m,m=B.length:=⟨_,rfl⟩;obtain ⟨A0,c0,rfl,hc0,hm0⟩:=h0.shape;obtain ⟨A1,c1,rfl,hc1,hm1⟩:=h1.shape;rw [<- hn] at h0 hc0 |-;rw [<- hm] at h1 hc1 |-;unfold maxLen at hm0 hm1;have ba0:=zC6 (w:=w) (zB1 _) (.cells #[.bool false,.slice none 0 0] 60);have BR0:=Blk.new w 60 #[.bool false,.slice none 0 0];have st0:=h0.bQ ba0;have st1:=h1.bQ ba0;have HNM:=hQ9 (zA hn hm);clear h0 h1 hn hm
  go_enter func35,ntmps35;go_wp2_with fail
  refine (jI2 _ A _ st0).mono ?_;rintro e w2 (⟨hS,rfl,b2⟩|⟨hS,rfl,b2⟩)
  · have HS:=hQ9 hS;have BR2:=BR0.bQ b2;have st02:=st0.bQ b2;have st12:=st1.bQ b2;have b02:=ba0.trans (b2.mono ba0.size);clear hS BR0 st0 st1 ba0 b2
    go_wp2_with fail
    refine (yK0 _ B _ st12).mono ?_;rintro e w3 (⟨hE,rfl,b3⟩|⟨hE,rfl,b3⟩)
    · have HEv:=hQ9 hE;have BR3:=BR2.bQ b3;have st03:=st02.bQ b3;have st13:=st12.bQ b3;have b03:=b02.trans (b3.mono b02.size);clear hE BR2 st02 st12 b02 b3;have hl:n=m:=by rw [HNM.out.1,HNM.out.2];exact HOK.out.2.2
      · subst hl;have hn100:n<=100:=by rw [HNM.out.1];exact HOK.out.1.1
        obtain ⟨mk,hmk⟩:=Classical.axiomOfChoice (fun w=>qH2 (P:=prog) (w:=w) underlying73 yK3 n (by omega));have hmk1:=fun w=>(hmk w).1;have HMK:=hQ9 (fun w=>(hmk w).2);clear hmk;obtain ⟨tb,bm⟩:=HMK.out w3;obtain ⟨T0,hT0⟩:∃ T0,T0=zB n ([]:List Int):=⟨_,rfl⟩;obtain ⟨M,hM⟩:∃ M,M=qI6 A B:=⟨_,rfl⟩;have HML:Hid (M.length=T0.length/\T0.length=n):=⟨by rw [hM,hT0,jK6 HOK.out.2.2,bW7,HNM.out.1],by rw [hT0,bW7]⟩
        have TW0:zE2 .u64 4294967296 (mk w3) w3.heap.size 48 (zB n (.slice none 0 0)) (zK T0 M 0):=by
          rw [qH9,hT0];refine ⟨tb,by rw [bW7,bW7],fun i u r hu hr => ?_⟩;obtain rfl:=(List.mem_replicate.1 (zA5 hu)).2;obtain rfl:=(List.mem_replicate.1 (zA5 hr)).2;exact qH8 _ _ _ (Nat.zero_le _)
        have HAP0:Hid (Apt (mk w3) w3.heap.size (zB n (.slice none 0 0))):=by
          refine ⟨fun u hu g e => ?_,fun i j u v hij hu hv g e => ?_⟩
          · obtain rfl:=(List.mem_replicate.1 hu).2;cases e
          · obtain rfl:=(List.mem_replicate.1 (zA5 hu)).2;cases e
        have hw3:w.heap.size<w3.heap.size:=BR3.lt;have HM:=hQ9 hM;have HST:=hQ9 (zA st03 st13);have HB0:Hid (Below w3.heap.size w3 (mk w3)):=bm;have HB03:=hQ9 b03;have HBR:=hQ9 BR3;clear tb bm hT0 hM st03 st13 BR3 b03;go_wp2
        go_loopw [34] (fun v34 wr => ∃ (i:Nat) (us:List Value),i<=n/\zE2 .u64 4294967296 wr w3.heap.size 48 us (zK T0 M i)/\Hid (Apt wr w3.heap.size us)/\Hid (Below w3.heap.size w3 wr)/\v34=.int .i64 (i:Int)) (fun v34 _=>n-(intOf v34).toNat)
        case atStart=>exact ⟨0,_,by omega,TW0,HAP0,HB0,rfl⟩
        case round =>
          clear TW0 HB0 HAP0;obtain ⟨i,us,hi,TW,HAP,HBi,rfl⟩:=hrel;obtain ⟨wi,hwi⟩:∃ wi,wi=wr:=⟨_,rfl⟩;subst hwi;by_cases hin:i<n
          · obtain ⟨p,hp⟩:∃ p,A[i]?=some p:=⟨_,zA3 (by rw [<- HNM.out.1];exact hin)⟩;obtain ⟨q,hq⟩:∃ q,B[i]?=some q:=⟨_,zA3 (by rw [<- HNM.out.2];exact hin)⟩;have hpl:p.length<=100:=by rw [HOK.out.1.2 p (zA5 hp)];exact HOK.out.1.1
            have hql:q.length<=100:=(HOK.out.2.1.2 q (zA5 hq)).2;have bd:=(Below.refl wi.heap.size wi).drew;have HBd:Hid (Below w3.heap.size w3 wi.drew):=HBi.out.drew;have s0d:=HST.out.1.bQ HBd.out;have s1d:=HST.out.2.bQ HBd.out;obtain ⟨ad0,rfl⟩:=s0d.place (List.length_pos_iff.1 (by have:=HNM.out.1;omega));obtain ⟨ad1,rfl⟩:=s1d.place (List.length_pos_iff.1 (by have:=HNM.out.2;omega));obtain ⟨Ap,cp,hia,ecp,sp⟩:=s0d.at2 hp;obtain ⟨Aq,cq,hib,ecq,sq⟩:=s1d.at2 hq;obtain ⟨pa,hpa,vpa,npa⟩:=sp.pairs;obtain ⟨pb,hpb,vpb,npb⟩:=sq.pairs;have hla:pa.length<=1000:=by rw [<- zA9 (f:=(·.1)),hpa];omega
            have hlb:pb.length<=1000:=by rw [<- zA9 (f:=(·.1)),hpb];omega
            have TMd:=TW.bQ bd;obtain ⟨x,hx⟩:∃ x,T0[i]?=some x:=⟨_,zA3 (by rw [HML.out.2];exact hin)⟩;have hm2:(zK T0 M i)[i]?=some x:=by rw [qI0 HML.out.1 (by rw [HML.out.2];omega)];exact hx
            have HMI:Hid ((zK T0 M i).set i (p ++ q)=zK T0 M (i+1)):=qI1 HML.out.1 (by rw [HM.out];exact besI_at hp hq);have HX:=hQ9 hm2;have HPP:=hQ9 (zA hpa hpb);have ba:=zC6 (w:=wi.drew) (zB1 _) (.cells #[.slice Ap p.length cp,.slice Aq q.length cq] 48);have HV:=zS4 wi.drew 48 [.slice Ap p.length cp,.slice Aq q.length cq];have HPA:=hQ9 (zA (vpa.bQ ba) (zA (npa.bQ ba) (zA (vpb.bQ ba) (npb.bQ ba))));have HBA:=hQ9 ba;clear hp hq hx hm2 hpa hpb vpa npa vpb npb ba sp sq s0d s1d hpl hql TW;go_upto_region 7 with (fail)
            go_region_law (go_simp;go_at_call 72;refine (jK7 _ _ _ pa pb _ (by exact HV) HPA.out.1 HPA.out.2.1 HPA.out.2.2.1 HPA.out.2.2.2 hla hlb).mono ?_;rintro e w6 ⟨V6,rfl,R6,N6,b6⟩;obtain ⟨A6,c6,rfl⟩:=R6.slice;obtain ⟨m6,hm6⟩:∃ m6,m6=(pa ++ pb).length:=⟨_,rfl⟩;rw [<- hm6] at R6 |-;clear hm6;have b06:Below wi.drew.heap.size wi.drew w6:=HBA.out.trans (b6.mono HBA.out.size);have TM6:=TMd.bQ b06;obtain ⟨A6',c6',hu6,ec6,-⟩:=TM6.at_ HX.out;have f6:=TM6.1.1.frozen i)
            all_goals
              have sR:SlZ .u64 4294967296 w6 (.slice A6 m6 c6) (p ++ q):=by
                have h:=R6.slP.sl N6;rwa [bX5,HPP.out.1,HPP.out.2] at h
              have TM7:=TM6.stored i sR;rw [HMI.out] at TM7;have HB7:=hQ9 ((HBd.out.trans (b06.mono HBd.out.size)).grown (zE9 w6 w3.heap.size i (.slice A6 m6 c6)) (zB2 HBd.out.size b06.size) (fun x e=>by injection e with e;omega));have HA7:Hid (Apt (w6.setCell ⟨w3.heap.size,i,none⟩ (.slice A6 m6 c6)) w3.heap.size (us.set i (.slice A6 m6 c6))):=Apt.newR (HAP.out.grow (zQ9 bd)) ((zQ9 b06).trans (zZ2 w6 w3.heap.size i _)) HBd.out.size (fun g e=>⟨zB2 HBA.out.size (R6.bk e).1,(zZ2 w6 w3.heap.size i _).2 g (R6.bk e).2⟩);clear TM6 sR R6 N6 b6 b06 TMd ec6 f6 ecp ecq HV HAP HBi bd;go_wp2;go_roundw;case rel=>exact ⟨i+1,_,by omega,TM7,HA7,HB7,by go_num⟩
              case measure=>simp [intOf];omega
          · have TWn:zE2 .u64 4294967296 wi w3.heap.size 48 us M:=by
              have h1:=qI HML.out.1;rw [HML.out.2] at h1;rw [show i=n by omega,h1] at TW;exact TW
            have TWo:zE2 .u64 4294967296 wi w3.heap.size 48 us [[x,y]]:=by
              rw [HM.out,HAB.out.1,HAB.out.2] at TWn;exact TWn
            have HCW:Hid (n=1/\x≠0):=⟨by rw [HNM.out.1,HAB.out.1];rfl,hc.out.1⟩;clear TW TWn;go_wp2_with fail
            refine (jI3 w3.heap.size n us x y _ TWo HCW).mono ?_;rintro e w5 ⟨hg5,us5,v5,rfl,hv5,TS5,hAp⟩
            · obtain ⟨u5, rfl, s5⟩ := hv5;obtain ⟨A5,c5,rfl,_⟩:=id s5;have HAP5 : Hid (Apt w5 w3.heap.size us5):=hAp _ HBi.out.size HAP.out;obtain ⟨T,hT⟩ : ∃ T,T = [[y]]:=⟨_,rfl⟩;rw [<- hT] at TS5;have HSH : Hid (shI T n 1):=⟨by rw [hT,HCW.out.1]; rfl,fun r hr => by rw [hT] at hr; rw [List.mem_singleton.1 hr]; rfl⟩
              have HLT:Hid (lenI T 5000):=fun r hr z hz=>by
                rw [hT] at hr;rw [List.mem_singleton.1 hr] at hz;rw [List.mem_singleton.1 hz];exact hc.out.2.2
              have HTT:=hQ9 hT;have HTL:Hid (T.length=n):=HSH.out.1;clear hT;have hsz5:w3.heap.size<=w5.heap.size:=zB2 HBi.out.size hg5.size;have b05:=HB03.out.trans (HBi.out.mono HB03.out.size);have b06:=b05.grown hg5 b05.size (fun x e=>by injection e with e;omega);have BR5:=Blk.grown (HBR.out.bQ HBi.out) hg5 (show w.heap.size≠w3.heap.size by omega);have ba:=zC6 (w:=w5) (zB1 _) (.cells #[.bool (ngB x),.slice A5 (digs 4294967296 x.natAbs).length c5] 60);have B6:=Blk.new w5 60 #[.bool (ngB x),.slice A5 (digs 4294967296 x.natAbs).length c5];have s6:=s5.bQ ba;have BR6:=BR5.bQ ba;have b07:=b06.trans (ba.mono b06.size);have TS6:=TS5.bQ ba;have HAP6:=hQ9 (HAP5.out.grow (zQ9 ba));have HGR:Hid (∀ u∈us5,∀ g,u.ownBlock=some g->w3.heap.size<=g/\g<w5.heap.size):=fun u hu g e=>⟨(HAP5.out.1 u hu g e).1,(HAP5.out.1 u hu g e).2.lt⟩;obtain ⟨t,ht⟩:∃ t,t=zJ3 x 0:=⟨_,rfl⟩;have hz1:(t == 0)=false:=by rw [ht,beq_eq_false_iff_ne];exact fun e=>hc.out.1 ((yK x).1 e)
              have HT:=hQ9 ht;clear hAp ht hg5 b05 b06 BR5 s5 ba TS5 TWo HAP HBi;go_wp2_with fail
              refine (qF0 _ x t _ ⟨_,rfl,s6⟩ HT.out).mono ?_;rintro e w7 ⟨rfl,b7⟩;have BR7:=BR6.bQ b7;have B7:=B6.bQ b7;have s7:=s6.bQ b7;have TS7:zE2 .u64 4294967296 w7 w3.heap.size 48 us5 T:=TS6.bQ b7;have HAP7:=hQ9 (HAP6.out.grow (zQ9 b7));have HB7:Hid (Below w.heap.size w w7):=b07.trans (b7.mono b07.size);clear BR6 B6 s6 TS6 HAP6 b07 b7;go_wp2
              go_loopw [62] (fun v62 wr => ∃ i:Nat,i<=n/\zE2 .u64 4294967296 wr w3.heap.size 48 us5 T/\Hid (Apt wr w3.heap.size us5)/\Blk wr w5.heap.size 60 #[.bool (ngB x),.slice A5 (digs 4294967296 x.natAbs).length c5]/\IsS wr .u64 (.slice A5 (digs 4294967296 x.natAbs).length c5) (digs 4294967296 x.natAbs)/\Blk wr w.heap.size 60 #[.bool false,.slice none 0 0]/\Hid (Below w.heap.size w wr)/\v62=.int .i64 (i:Int)) (fun v62 _=>n-(intOf v62).toNat)
              case atStart=>exact ⟨0,by omega,TS7,HAP7,B7,s7,BR7,HB7,rfl⟩
              case round =>
                clear TS7 HAP7 B7 s7 BR7 HB7;obtain ⟨i,hi,TS,HAP,BP,su,BR,HB,rfl⟩:=hrel;obtain ⟨wo,hwo⟩:∃ wo,wo=wr:=⟨_,rfl⟩;subst hwo;by_cases hin:i<n
                · obtain ⟨r,hr,hrl⟩:=rowI_ex HSH.out hin;obtain ⟨Ar,cr,hur,ecr,sr⟩:=TS.at_ hr;have HR:=hQ9 hr;have HRB:Hid (∀ z∈r,zC5 z<=5000):=HLT.out r (zA5 hr);have TS0:=TS;obtain ⟨rl,hrl2⟩:∃ rl,rl=r.length:=⟨_,rfl⟩;rw [<- hrl2] at hur ecr sr;have HRL2:=hQ9 hrl2;have hrlb:rl<=100:=by rw [hrl2,hrl];omega
                  have HURL:Hid (us5[i]?=some (.slice Ar rl cr)):=hur;clear hr hrl hur sr TS hrl2;go_wp2
                  go_loopw [70] (fun v70 wr => ∃ j:Nat,j<=rl/\zE2 .u64 4294967296 wr w3.heap.size 48 us5 T/\Hid (Apt wr w3.heap.size us5)/\Blk wr w5.heap.size 60 #[.bool (ngB x),.slice A5 (digs 4294967296 x.natAbs).length c5]/\IsS wr .u64 (.slice A5 (digs 4294967296 x.natAbs).length c5) (digs 4294967296 x.natAbs)/\Blk wr w.heap.size 60 #[.bool false,.slice none 0 0]/\Hid (Below w.heap.size w wr)/\v70=.int .i64 (j:Int)) (fun v70 _=>rl-(intOf v70).toNat)
                  case atStart=>exact ⟨0,by omega,TS0,HAP,BP,su,BR,HB,rfl⟩
                  case round =>
                    clear TS0 HAP BP su BR HB ecr;obtain ⟨j,hj,TS,HAP,BP,su,BR,HB,rfl⟩:=hrel;obtain ⟨wi2,hwi2⟩:∃ wi2,wi2=wr:=⟨_,rfl⟩;subst hwi2;by_cases hjl:j<rl
                    · obtain ⟨z,hz⟩:∃ z,r[j]?=some z:=⟨_,zA3 (by rw [<- HRL2.out];exact hjl)⟩;have hmj:=hz;have hzl:zC5 z<=5000:=HRB.out z (zA5 hz)
                      have CG:∀ w a,IsZ w a z->Calls prog 75 #[.bool false,a] w (zF6 z w):=fun w a h=>by
                        have h2:=yK2 false a z w h (by omega);rwa [show sgn false z=z from rfl] at h2
                      have HSET:Hid (T.set i (r.set j z)=T):=by
                        show _=_
                        rw [yL8 hz,yL8 HR.out]
                      have HCUR:=HR;have hcur:=HR.out;have bd:=(Below.refl wi2.heap.size wi2).drew;have TSd:=TS.bQ bd;have srow:=TSd.2.2 i _ _ HURL.out hcur;obtain ⟨gr,or,rfl,hgr⟩:=srow.place (fun e=>by rw [e] at hmj;simp at hmj);obtain ⟨uz,hjn,p0,p1,sz⟩:=srow.at2 hmj;obtain ⟨Az,cz,rfl,_⟩:=id sz;have ecd:=TSd.1.cell HURL.out;rw [zR9] at ecd;have hfz:=((HAP.out.1 _ (zA5 HURL.out) gr rfl).2);have hgb:=HGR.out _ (zA5 HURL.out) gr rfl;have hix:=fun w=>qP0 (P:=prog) underlying48 (by kernel_rfl) (g:=gr) (o:=or) (c:=cr) hjn w;have BPd:=BP.bQ bd;have sud:=su.bQ bd;have BRd:=BR.bQ bd;have HBd:Hid (Below w.heap.size w wi2.drew):=HB.out.drew;have HAPd:=hQ9 (HAP.out.grow (zQ9 bd));have fz:=(zQ9 bd).2 gr hfz;have f0:=fz.frozen (or+j*2);have f1:=fz.frozen (or+j*2+1);have HMJ:=hQ9 (zA hmj (zA4.1 hmj).1);have hszd:=HBd.out.size;clear hz hmj hzl hcur hgr TS BP su BR HB HAP bd hfz;go_upto_region 18 with (fail)
                      go_region_law (go_simp;go_at_call 75;refine (CG _ _ ⟨_,rfl,by exact sz⟩).mono ?_;rintro e w8 ⟨v8,rfl,k8,-,b8⟩;obtain ⟨u8,rfl,s8⟩:=k8;obtain ⟨A8,c8,rfl,_⟩:=id s8;have TS8:=TSd.bQ b8;have srow8:=TS8.2.2 i _ _ HURL.out HCUR.out;obtain ⟨uz8,-,p08,p18,sz8⟩:=srow8.at2 HMJ.out.1;have ec8:=TS8.1.cell HURL.out;rw [zR9] at ec8;have fz8:=(zQ9 b8).2 gr fz;have f08:=fz8.frozen (or+j*2);have f18:=fz8.frozen (or+j*2+1))
                      all_goals
                        obtain ⟨TS9,hne9⟩:=TS8.setZ (HAPd.out.grow (zQ9 b8)) HURL.out HCUR.out HMJ.out.2 s8;obtain ⟨Az8,cz8,rfl,_⟩:=id sz8;rw [HSET.out] at TS9;have G9:=qW7 w8 gr (or+j*2) (.bool (ngB z)) (.slice A8 (digs 4294967296 z.natAbs).length c8);have BP9:=Blk.grown (BPd.bQ b8) G9 (by omega);have su9:=rat.IsS.put2 (x:=.bool (ngB z)) (y:=.slice A8 (digs 4294967296 z.natAbs).length c8) (sud.bQ b8) p08 p18;have BR9:=Blk.grown (BRd.bQ b8) G9 (by omega);have HB9:=hQ9 ((HBd.out.trans (b8.mono hszd)).grown G9 (zB2 hszd b8.size) (fun x e=>by injection e with e;omega));have HAP9:=hQ9 ((HAPd.out.grow (zQ9 b8)).grow ((zZ2 w8 gr (or+j*2) (.bool (ngB z))).trans (zZ2 _ gr (or+j*2+1) (.slice A8 (digs 4294967296 z.natAbs).length c8))));clear TS8 srow8 sz8 p08 p18 ec8 fz8 f08 f18 s8 b8 G9 TSd srow p0 p1 sz ecd BPd sud BRd fz f0 f1 HAPd HBd;go_wp2;go_roundw;case rel=>exact ⟨j+1,by omega,TS9,HAP9,BP9,su9,BR9,HB9,by go_num⟩
                        case measure=>simp [intOf];omega
                    · have TS9:=TS;clear TS;go_wp2;go_roundw;case rel=>exact ⟨i+1,by omega,TS9,HAP,BP,su,BR,HB,by go_num⟩
                      case measure=>simp [intOf];omega
                · have TSn:=TS
                  have CG:∀ w a,IsZ w a x->Calls prog 75 #[.bool false,a] w (zF6 x w):=fun w a h=>by
                    have h2:=yK2 false a x w h (by have:=hc.out.2.1;omega);rwa [show sgn false x=x from rfl] at h2
                  obtain ⟨V0,V1,F0,F1⟩:=Blk.two BP;clear TS HAP;go_wp2_with fail
                  refine (CG _ _ ⟨_,rfl,su⟩).mono ?_;rintro e w8 ⟨v8,rfl,k8,-,b8⟩;obtain ⟨u8,rfl,s8⟩:=k8;obtain ⟨A8,c8,rfl,_⟩:=id s8;have BR8:=BR.bQ b8;have TS8:=TSn.bQ b8;have b08:=HB.out.trans (b8.mono HB.out.size);obtain ⟨W0,W1,K0,K1⟩:=Blk.two BR8;have G9:=qW4 w8 w.heap.size (.bool (ngB x)) (.slice A8 (digs 4294967296 x.natAbs).length c8);obtain ⟨C0,C1,-,-⟩:=Blk.two (qP3 BR8 (.bool (ngB x)) (.slice A8 (digs 4294967296 x.natAbs).length c8));have s9:=flow.off s8 BR8 no_ints2 G9;have HB9:=hQ9 (b08.grown G9 b08.size (fun k e=>by injection e with e;omega));have TS9:=TS8.offZ BR8 no_ints2 (by decide) G9 (fun u hu e=>by have:=(HGR.out u hu _ e).1;omega);have SL9:=TS9.sub (o:=0) (m:=n) (c:=n) (by have:=HTL.out;omega) (zB1 n) (by unfold maxLen;omega);rw [List.drop_zero,zA7 (by have:=HTL.out;omega)] at SL9;clear TS9 G9 TS8 BR8 b08 b8 s8 BR HB TSn su BP V0 V1 F0 F1 CG;go_wp2;refine bodyPost_ret (v:=.tuple #[.slice (some ⟨w3.heap.size,0,none⟩) n n,.agg #[.bool (ngB x),.slice A8 (digs 4294967296 x.natAbs).length c8],.int .i64 0]) (by simp [results,results35,go_sem,C0,C1]) rfl ?_;exact ⟨HB9.out,_,_,rfl,by rw [<- HTT.out];exact SL9,⟨_,rfl,s9⟩⟩
    · exact absurd HOK.out.2.1 hE
  · exact absurd HOK.out.1 hS
end rat
namespace rat
open Go.RowKit Go.Shelf num mem nat txt str flow whl
theorem yL9 (n:Nat) (M:Nat->Nat->Rat):∀ a,a<=n -> ∃ (c:Rat) (E:Nat->Nat->Rat) (k:Nat) (p:Nat->Nat),Ech n a E k p/\Red n E k p 0/\(∀ f,RowFn n n f->f M=c*f E)/\c≠0/\zE4 n n M E
  | 0,_=>⟨1,M,0,id,Ech.zero n M id,fun m _ h=>by omega,fun f _=>by grind,by decide,zE4.refl _ _ _⟩
  | a + 1, ha => by
    obtain ⟨c,E,k,p,hE,hR,hf,hc,hK⟩:=yL9 n M a (by omega);by_cases h0:∀ i,k<=i->i<n->E i a=0
    · exact ⟨c,E,k,p,hE.skip h0,hR,hf,hc,hK⟩
    · obtain ⟨i,hi,hin,hne⟩:∃ i,k<=i/\i<n/\E i a≠0:=bQ1 fun h=>h0 fun i h1 h2=>bQ1 fun h3=>h ⟨i,h1,h2,h3⟩
      obtain ⟨c1,E1,hE1,hR1,hf1,hc1,hne1,hK1⟩:∃ (c1:Rat) (E1:Nat->Nat->Rat),Ech n a E1 k p/\Red n E1 k p 0/\(∀ f,RowFn n n f->f M=c1*f E1)/\c1≠0/\E1 k a≠0/\zE4 n n M E1:=by
        by_cases e:k=i
        · subst e;exact ⟨c,E,hE,hR,hf,hc,hne,hK⟩
        · refine ⟨-c,zD9 E k i,hE.swap hi hin,hR.swap hi hin,fun f h => ?_,?_,?_,hK.trans (qU0 E (by omega) hin)⟩
          · rw [hf f h,h.swap E (by omega) hin e];grind
          · intro e2;apply hc;grind
          · unfold zD9;rw [if_pos rfl];exact hne
      have hk:k<n:=by omega
      have hi1:=Rat.mul_inv_cancel _ hne1
      have hine:(E1 k a)⁻¹ ≠ 0:=fun e=>by
        rw [e] at hi1
        revert hi1
        rw [Rat.mul_zero]
        decide
      have hE2:=hE1.scale (E1 k a)⁻¹;have h1:zE8 E1 k (E1 k a)⁻¹ k a=1:=by unfold zE8;rw [if_pos rfl];exact hi1
      have hE3:=hE2.clear (t:=fun i=>if i=k then 0 else zE8 E1 k (E1 k a)⁻¹ i a) hk h1 (if_pos rfl) (fun i hki _=>if_neg (by omega));have hR3:=Red.clear (t:=fun i=>if i=k then 0 else zE8 E1 k (E1 k a)⁻¹ i a) (hR1.scale (E1 k a)⁻¹) hE2 hk h1 (if_pos rfl) (fun i hki _=>if_neg hki);refine ⟨c1*E1 k a,_,_,_,hE3,hR3,fun f h => ?_,?_,hK1.trans ((qU1 E1 hine).trans (qN1 _ hk (if_pos rfl)))⟩
      · rw [h.clear _ hk (if_pos rfl),h.scale _ _ _ hk,hf1 f h]
        grind
      · intro e;rcases Rat.mul_eq_zero.1 e with h | h
        · exact hc1 h
        · exact hne1 h
theorem qP5 {k:Nat} {p:Nat->Nat} (hr:∀ i j,i<j->j<k->p i<p j):∀ n,(∀ j,j<n -> ∃ i,i<k/\p i=j)->n<=k /\ ∀ i,i<n->p i=i
  | 0,_=>⟨by omega,fun i h=>by omega⟩
  | n + 1, h => by
    obtain ⟨h1,h2⟩:=qP5 hr n fun j hj=>h j (by omega);obtain ⟨i,hi,e⟩:=h n (by omega)
    have hin:i=n:=by
      rcases Nat.lt_trichotomy i n with hl|hl|hl
      · have:=h2 i hl;omega
      · exact hl
      · have h3:=hr n i hl hi;rcases bY3 n with e0 | e0
        · omega
        · have h4:=hr (n-1) n (by omega) (by omega);have h5:=h2 (n-1) (by omega);omega
    subst hin;refine ⟨by omega,fun j hj => ?_⟩;by_cases e2:j<i
    · exact h2 j e2
    · obtain rfl:j=i:=by omega
      exact e
theorem qP6 {n:Nat} {f:Nat->Rat}:∀ C,n<=C->(∀ j,n<=j->j<C->f j=0)->zC0 C f=zC0 n f:=by
 intro C hC h;obtain ⟨m,rfl⟩:∃ m,C=n+m:=⟨C-n,by omega⟩;rw [qI4,zN3 (n:=m) fun i hi=>h (n+i) (by omega) (by omega),Rat.add_zero]
theorem det_ker {n:Nat} {M:Nat->Nat->Rat} {x:Nat->Rat} {c:Nat} (hc:c<n) (hx:zY9 n n M x) (hne:x c≠0):zE5 n M=0:=by
 have h1:=qN3 n M c x hc;have h2:=qN3 n M c (fun _=>0) hc
 have e:zE5 n (zP4 M c (fun i=>zC0 n (fun l=>M i l*x l)))=zE5 n (zP4 M c (fun i=>zC0 n (fun l=>M i l*(fun _=>(0:Rat)) l))):=zQ8 n fun i j hi hj=>by
  unfold zP4;by_cases e:j=c
  ·rw [if_pos e,if_pos e];show zC0 n (fun l=>M i l*x l)=zC0 n (fun l=>M i l*0)
   rw [hx i hi,zN3 fun l _=>by rw [Rat.mul_zero]]
  ·rw [if_neg e,if_neg e]
 rw [e,h2,Rat.zero_mul] at h1;rcases Rat.mul_eq_zero.1 h1.symm with h | h
 ·exact absurd h hne
 ·exact h
theorem det_ne {n:Nat} {M:Nat->Nat->Rat} (h:∀ x,zY9 n n M x -> ∀ c,c<n->x c=0):zE5 n M≠0:=by
 obtain ⟨c,E,k,p,hE,hR,hf,hc,hK⟩:=yL9 n M n (zB1 n)
 have hall:∀ j,j<n -> ∃ i,i<k/\p i=j:=fun j hj=>bQ1 fun hn=>by
  have h1:=zW6 hE hR hj (fun i hi e=>hn ⟨i,hi,e⟩);have h2:=h _ ((hK _).2 h1) j hj;rw [zS7] at h2
  revert h2
  decide
 obtain ⟨hnk,_⟩:=qP5 hE.rise n hall;have hkn:k=n:=by have:=hE.le;omega
 rw [hf _ (qB5 n),(qB5 n).steps hE,if_pos hkn,qN2,Rat.mul_one];exact hc
theorem ech_det {n C k:Nat} {A T:Nat->Nat->Rat} {p:Nat->Nat} (hC:n<=C) (hE:Ech n C T k p) (hR:Red n T k p 0) (hK:zE4 n C A T):(∃ j,j<n /\ ∀ i,i<k->p i≠j)->zE5 n A=0:=by
 rintro ⟨j,hj,hf⟩;have h1:=(hK _).2 (zW6 hE hR (show j<C by omega) hf);refine det_ker (x:=nv T k p j) hj (fun i hi => ?_) (by rw [zS7];decide);have h2:=h1 i hi;rw [qP6 (n:=n) C hC (fun l h3 h4=>by rw [yF6 hE (show j<l by omega),Rat.mul_zero])] at h2;exact h2
theorem yM {n C k:Nat} {A T:Nat->Nat->Rat} {p:Nat->Nat} (hC:n<=C) (hE:Ech n C T k p) (hR:Red n T k p 0) (hK:zE4 n C A T) (h:∀ j,j<n -> ∃ i,i<k/\p i=j):k=n/\(∀ i,i<n->p i=i)/\(∀ i j,i<n->j<n->T i j=idF i j)/\zE5 n A≠0:=by
 obtain ⟨h1,h2⟩:=qP5 hE.rise n h;have hkn:k=n:=by have:=hE.le;omega
 have hT:∀ i j,i<n->j<n->T i j=idF i j:=fun i j hi hj=>by
  unfold idF;by_cases e:i=j
  ·subst e;rw [if_pos rfl]
   have:=hE.one i (by omega)
   rwa [h2 i hi] at this
  ·rw [if_neg e]
   have:=hR j (Nat.zero_le _) (by omega) i hi e
   rwa [h2 j hj] at this
 refine ⟨hkn,h2,hT,det_ne fun x hx c hc => ?_⟩
 have h3:=(hK (fun l=>if l<n then x l else 0)).1 (fun i hi=>by
  rw [qP6 (n:=n) C hC (fun l h3 h4=>by simp only [if_neg (show ¬ l<n by omega)];rw [Rat.mul_zero])];have h4:=hx i hi;rw [<- h4];exact zF2 fun l hl=>by simp only [if_pos hl]) c hc
 rw [qP6 (n:=n) C hC (fun l h3 h4=>by simp only [if_neg (show ¬ l<n by omega)];rw [Rat.mul_zero]),zK7 (a:=c) hc (fun l hl hne=>by rw [hT c l hc hl];unfold idF;rw [if_neg (fun e=>hne e.symm),Rat.zero_mul]),hT c c hc hc] at h3;unfold idF at h3;rw [if_pos rfl,Rat.one_mul] at h3;simpa only [if_pos hc] using h3
structure SolQ (A B X:List (List Rat)):Prop where
 sh:shp X A.length (zC B)
 sol:∀ i j,i<A.length->j<zC B->zR7 A.length (zB6 A) (zB6 X) i j=zB6 B i j
theorem SolQ.one {A B X Y:List (List Rat)} (h:SolQ A B X) (k:SolQ A B Y) (hd:zE5 A.length (zB6 A)≠0):X=Y:=by
 refine yG1 h.sh k.sh fun c j hc hj => ?_;have e1:=qN3 A.length (zB6 A) c (fun l=>zB6 X l j) hc;have e2:=qN3 A.length (zB6 A) c (fun l=>zB6 Y l j) hc
 have e:zE5 A.length (zP4 (zB6 A) c (fun i=>zC0 A.length (fun l=>zB6 A i l*(fun l=>zB6 X l j) l)))=zE5 A.length (zP4 (zB6 A) c (fun i=>zC0 A.length (fun l=>zB6 A i l*(fun l=>zB6 Y l j) l))):=zQ8 _ fun i l hi hl=>by
  unfold zP4;by_cases e:l=c
  ·rw [if_pos e,if_pos e];exact (h.sol i j hi hj).trans (k.sol i j hi hj).symm
  ·rw [if_neg e,if_neg e]
 rw [e,e2] at e1;have h1:=Rat.mul_inv_cancel _ hd;have h3:zB6 X c j*zE5 A.length (zB6 A)*(zE5 A.length (zB6 A))⁻¹ = zB6 Y c j*zE5 A.length (zB6 A)*(zE5 A.length (zB6 A))⁻¹:=by rw [e1]
 rw [Rat.mul_assoc,Rat.mul_assoc,h1,Rat.mul_one,Rat.mul_one] at h3;exact h3
theorem qP7 {P Q:List (List Rat)} {i:Nat} {p q:List Rat} (hp:P[i]?=some p) (hq:Q[i]?=some q):(zD4 P Q)[i]?=some (p ++ q):=by
 unfold zD4;rw [List.getElem?_zipWith,hp,hq]
theorem zX3 {P Q:List (List Rat)} {n a b:Nat} (hp:shp P n a) (hq:shp Q n b):shp (zD4 P Q) n (a+b):=by
 refine ⟨by unfold zD4;rw [List.length_zipWith,hp.1,hq.1,Nat.min_self],fun r hr => ?_⟩;obtain ⟨i,hi⟩:=List.mem_iff_getElem?.1 hr;unfold zD4 at hi;rw [List.getElem?_zipWith_eq_some] at hi;obtain ⟨x,y,hx,hy,rfl⟩:=hi;rw [zA8,hp.2 x (zA5 hx),hq.2 y (zA5 hy)]
theorem qP8 {P Q:List (List Rat)} {n a b i j:Nat} (hp:shp P n a) (hq:shp Q n b) (hi:i<n):zB6 (zD4 P Q) i j=zI7 a (zB6 P) (zB6 Q) i j:=by
 obtain ⟨r,hr,hl⟩:=zI0 hp hi;obtain ⟨s,hs,hl2⟩:=zI0 hq hi;rw [zP5 (qP7 hr hs)];unfold zI7;rw [zA6];by_cases h:j<a
 ·rw [if_pos h,zB0 (by omega),zP5 hr,zA6]
 ·rw [if_neg h,bW0 (by omega),hl,zP5 hs,zA6]
theorem jK9 {P Q:List (List Rat)} {m:Nat} (h1:zE0 P 1) (h2:zE0 Q 1) (hl:∀ r∈zD4 P Q,r.length<=m):zG0 (zD4 P Q) (m+1):=by
 intro x hx;refine (qO (m:=1) fun y hy => ?_).mono (by have:=hl x hx;omega);obtain ⟨p,hp,q,hq,rfl⟩:=qV9 hx;rcases List.mem_append.1 hy with hy | hy
 ·exact h1 p hp y hy
 ·exact h2 q hq y hy
theorem solq_of {A B T:List (List Rat)} {n m k:Nat} {p:Nat->Nat} (hA:shp A n n) (hB:shp B n m) (hm:zC B=m) (hT:shp T n (n+m)) (hE:Ech n (n+m) (zB6 T) k p) (hR:Red n (zB6 T) k p 0) (hK:zE4 n (n+m) (zB6 (zD4 A B)) (zB6 T)) (h:∀ j,j<n -> ∃ i,i<k/\p i=j):SolQ A B (T.map fun r=>r.drop n):=by
  obtain ⟨_,_,hI,_⟩:=yM (Nat.le_add_right n m) hE hR hK h;have hl:A.length=n:=hA.1
  have hent:∀ i c,i<n->zB6 (T.map fun r=>r.drop n) i c=zB6 T i (n+c):=fun i c hi=>by
    obtain ⟨r,hr,hrl⟩:=zI0 hT hi;have h1:(T.map fun r=>r.drop n)[i]?=some (r.drop n):=by rw [bQ8,hr];rfl
    rw [zP5 h1,zP5 hr,zA6,bW9,zA6]
  have hk2:zE4 n (n+m) (zI7 n (zB6 A) (zB6 B)) (zI7 n idF (fun i c=>zB6 T i (n+c))):=by
    refine ((zZ fun i j hi hj=>(qP8 hA hB hi).symm).trans hK).trans (zZ fun i j hi hj => ?_);unfold zI7;by_cases h:j<n
    · rw [if_pos h];exact hI i j hi h
    · rw [if_neg h];show zB6 T i j=zB6 T i (n+(j-n))
      rw [show n+(j-n)=j by omega]
  refine ⟨⟨by rw [zA9,hT.1,hl],fun r hr => ?_⟩,fun i c hi hc => ?_⟩
  · obtain ⟨y,hy,rfl⟩:=List.mem_map.1 hr;rw [bX2,hT.2 y hy,hm];omega
  · rw [hl] at hi |-;rw [hm] at hc
    have h1:=(hk2 (fun j=>if j<n then zB6 T j (n+c) else -(idF (j-n) c))).2 (fun i hi=>by
      rw [yK7 n m idF (fun i c=>zB6 T i (n+c)) (fun j=>zB6 T j (n+c)) (fun j => -(idF j c)),sum_idF hi (fun j=>zB6 T j (n+c)),qP4]
      have e:zC0 m (fun j=>zB6 T i (n+j)*idF j c)=zB6 T i (n+c):=by
        rw [zK7 hc (fun j _ hne=>by unfold idF;rw [if_neg hne,Rat.mul_zero])];unfold idF;rw [if_pos rfl,Rat.mul_one]
      rw [e]
      grind) i hi
    rw [yK7 n m (zB6 A) (zB6 B) (fun j=>zB6 T j (n+c)) (fun j => -(idF j c)),qP4] at h1
    have e:zC0 m (fun j=>zB6 B i j*idF j c)=zB6 B i c:=by
      rw [zK7 hc (fun j _ hne=>by unfold idF;rw [if_neg hne,Rat.mul_zero])];unfold idF;rw [if_pos rfl,Rat.mul_one]
    rw [e] at h1;unfold zR7;rw [zF2 (g:=fun l=>zB6 A i l*zB6 T l (n+c)) fun l hl=>by rw [hent l c hl]]
    grind
theorem zC8.apart {S S':Value->Prop} {w:World} {base base':Nat} {e e':TypeId} {v v':Value} {vs vs':List Value} (h:zC8 S w base e v vs) (h':zC8 S' w base' e' v' vs') (hne:e≠e'):∀ g,v.ownBlock=some g->v'.ownBlock≠some g:=fun g e1 e2=>by
 obtain ⟨cs,h1,_⟩:=h.2 g e1;obtain ⟨cs',h2,_⟩:=h'.2 g e2;rw [h1] at h2;injection h2 with h2;injection h2 with _ h2;exact hne h2
theorem qP9 (S:Value->Prop) (w:World) (base:Nat) (e:TypeId) (hb:base<=w.heap.size):zC8 S (w.alloc (.cells #[] e)) base e (.slice (some ⟨w.heap.size,0,none⟩) 0 0) [] :=
 ⟨qR3 w base e hb, fun g hg => by
  obtain rfl:w.heap.size=g:=by simpa [Value.ownBlock] using hg
  exact ⟨_,heap_alloc_new w _,fun c hc=>by simp at hc⟩⟩
theorem grew_of {w w':World} {v v':Value} (hg:w.grownBy w' v.ownBlock) (h5:v'.ownBlock=v.ownBlock\/v'.ownBlock=some w.heap.size):zH5 w w' v v' :=
 ⟨qK7 hg h5, hg, fun g hlt hne e1 => by
  rcases h5 with h | h
  ·exact hne (h ▸ e1)
  ·rw [h] at e1;injection e1 with e1;omega⟩
theorem zC8.set {w:World} {base g n c:Nat} {e:TypeId} {vs:List Value} (h:zC8 zH6 w base e (.slice (some ⟨g,0,none⟩) n c) vs) (i:Nat) {u:Value} (hu:zH6 u):zC8 zH6 (w.setCell ⟨g,i,none⟩ u) base e (.slice (some ⟨g,0,none⟩) n c) (vs.set i u):=by
 refine ⟨zD.stored h.1 i u,fun g' hg' => ?_⟩;obtain rfl:g=g':=by simpa [Value.ownBlock] using hg'
 obtain ⟨cs,h1,h2⟩:=h.2 g rfl;refine ⟨_,heap_setCell h1,fun x hx => ?_⟩;have hx2:x∈cs\/x=u:=by first | exact Array.mem_or_eq_of_mem_setIfInBounds hx | (have h:=Array.mem_toList_iff.2 hx;rw [Array.toList_setIfInBounds] at h;exact (bW3 h).imp Array.mem_toList_iff.1 id)
 rcases hx2 with hx2 | rfl
 ·exact h2 x hx2
 ·exact hu
theorem zL9.keepB {k:IntKind} {B:Nat} {w w':World} {base:Nat} {e:TypeId} {V:Value} {vs:List Value} {v u:Value} {r:List Rat} (hX:zC8 zH6 w base e V vs) (hg:w.grownBy w' V.ownBlock) (h:zL9 k B w v u r):zL9 k B w' v u r:=by
  cases ho:V.ownBlock with
  | none=>rw [ho] at hg;exact h.bQ ⟨hg.os,hg.tape,hg.output,hg.size,fun k hk=>hg.block k hk (by simp)⟩
  | some g =>
    rw [ho] at hg;obtain ⟨cs,h1,h2⟩:=hX.2 g ho;obtain ⟨ps,p1,⟨A,c,e1,p2,p3,p4⟩,p5,p6⟩:=h;have hno:∀ c∈cs,∀ n,c ≠ .int k n:=fun c hc n=>by obtain ⟨A,n',m,rfl⟩:=h2 c hc;simp
    refine ⟨ps,p1,⟨A,c,e1,p2,p3,fun i p hp => ?_⟩,fun p hp=>⟨⟨flow.off (p5 p hp).1.1 h1 hno hg,flow.off (p5 p hp).1.2 h1 hno hg⟩,(p5 p hp).2⟩,fun x hx=>⟨bY2 (p6 x hx).1 hg.size,(p6 x hx).2⟩⟩;obtain ⟨g',o,e2,c0,c1,c2⟩:=p4 i p hp
    have hne:some g'≠some g:=by
      intro e3;injection e3 with e3;subst e3;rw [cell_of_row w g' _ cs e (0,0) h1] at c0;obtain ⟨A',n',m',e4⟩:=h2 _ (Array.mem_of_getElem? c0);cases e4
    exact ⟨g',o,e2,hg.cell c0 hne,hg.cell c1 hne,hg.cell c2 hne⟩
def zM4 (w:World) (vp u:Value) (r:List Rat):Prop:=SlF .i64 10000 w u r/\(r≠[]->zL9 .i64 10000 w vp u r)
theorem zM4.bQ {w w':World} {vp u:Value} {r:List Rat} (h:zM4 w vp u r) (hb:Below w.heap.size w w'):zM4 w' vp u r:=⟨h.1.bQ hb,fun hr=>(h.2 hr).bQ hb⟩
theorem zM4.far {w w':World} {vp vp' u:Value} {r:List Rat} (h:zM4 w vp u r) (hF:r≠[]->zL9 .i64 10000 w' vp' u r):zM4 w' vp' u r:=by
 by_cases hr:r=[]
 ·subst hr;exact ⟨h.1.any,fun hr=>absurd rfl hr⟩
 ·exact ⟨(hF hr).sl,hF⟩
theorem zM4.sl {w:World} {vp u:Value} {r:List Rat} (h:zM4 w vp u r):zH6 u:=by
 obtain ⟨A,c,e,_⟩:=h.1.shape;exact ⟨_,_,_,e⟩
theorem jL {w:World} {vp u:Value} {r:List Rat} (h:SlF .i64 10000 w u r) (hv:∀ g,vp.ownBlock=some g->w.heap.size<=g):zM4 w vp u r:=by
 refine ⟨h,fun hr => ?_⟩;obtain ⟨g,o,c,rfl,hlt,_⟩:=h.place hr;obtain ⟨ps,h1,h2,h3⟩:=h
 exact ⟨ps,h1,h2,fun p hp=>⟨h3 p hp,(h3 p hp).1.farOld hv,(h3 p hp).2.farOld hv⟩,fun x hx=>by
  obtain rfl:g=x:=by simpa [Value.ownBlock] using hx
  exact ⟨hlt,fun e=>by have:=hv _ e;omega⟩⟩
structure TabD (w:World) (base:Nat) (V:Value) (us:List Value) (T:List (List Rat)) (vp:Value):Prop where
 row:zC8 zH6 w base 45 V us
 len:us.length=T.length
 own:∀ (i:Nat) (u:Value) (r:List Rat),us[i]?=some u->T[i]?=some r->zM4 w vp u r
theorem TabD.bQ {w w':World} {base:Nat} {V:Value} {us:List Value} {T:List (List Rat)} {vp:Value} (h:TabD w base V us T vp) (hb:Below w.heap.size w w'):TabD w' base V us T vp:=⟨h.row.bQ hb,h.len,fun i u r hu hr=>(h.own i u r hu hr).bQ hb⟩
theorem TabD.at_ {w:World} {base g n c:Nat} {us:List Value} {T:List (List Rat)} {vp:Value} (h:TabD w base (.slice (some ⟨g,0,none⟩) n c) us T vp) {i:Nat} {r:List Rat} (hr:T[i]?=some r):∃ Ar cr,us[i]?=some (.slice Ar r.length cr)/\w.cell? ⟨g,i,none⟩=some (.slice Ar r.length cr)/\zM4 w vp (.slice Ar r.length cr) r:=by
 have hi:i<us.length:=by rw [h.len];exact (zA4.1 hr).1
 have hu:us[i]?=some us[i]:=zA3 hi;have hs:=h.own i _ r hu hr;obtain ⟨Ar,cr,e,_,_⟩:=hs.1.shape;have hc:=h.row.1.cellAt hu;rw [e] at hu hs hc;exact ⟨Ar,cr,hu,hc,hs⟩
theorem TabD.set {w:World} {base g n c:Nat} {us:List Value} {T:List (List Rat)} {vp:Value} (h:TabD w base (.slice (some ⟨g,0,none⟩) n c) us T vp) (i:Nat) {u:Value} {r:List Rat} (hu:zM4 w vp u r):TabD (w.setCell ⟨g,i,none⟩ u) base (.slice (some ⟨g,0,none⟩) n c) (us.set i u) (T.set i r) vp:=by
 have hg:w.grownBy (w.setCell ⟨g,i,none⟩ u) (Value.ownBlock (.slice (some ⟨g,0,none⟩) n c)):=zE9 w g i u;refine ⟨h.row.set i hu.sl,by rw [bQ5,bQ5];exact h.len,fun j x y hx hy => ?_⟩;rcases zV hx with ⟨rfl,rfl⟩|⟨hj,hx⟩
 ·rcases zV hy with ⟨_,rfl⟩|⟨hj,_⟩
  ·exact hu.far fun hr=>zL9.keepB h.row hg (hu.2 hr)
  ·exact absurd rfl hj
 ·rcases zV hy with ⟨e,_⟩|⟨_,hy⟩
  ·exact absurd e hj
  ·have k:=h.own j x y hx hy;exact k.far fun hr=>zL9.keepB h.row hg (k.2 hr)
theorem TabD.keepP {w w':World} {base g n c:Nat} {us:List Value} {T:List (List Rat)} {vp u:Value} {r:List Rat} (h:TabD w base (.slice (some ⟨g,0,none⟩) n c) us T vp) (hg:w.grownBy w' (some g)) (hu:zM4 w vp u r):zM4 w' vp u r:=hu.far fun hr=>zL9.keepB h.row (show w.grownBy w' (Value.ownBlock (.slice (some ⟨g,0,none⟩) n c)) from hg) (hu.2 hr)
theorem TabD.piv {w w':World} {base:Nat} {V:Value} {us:List Value} {T:List (List Rat)} {vp vp':Value} (h:TabD w base V us T vp) (hp:zH5 w w' vp vp') (hne:∀ g,V.ownBlock=some g->vp.ownBlock≠some g):TabD w' base V us T vp' :=
 ⟨h.row.grown hp.2.1 hne,h.len,fun i u r hu hr=>(h.own i u r hu hr).far fun h0=>((h.own i u r hu hr).2 h0).keep hp⟩
theorem TabD.slT {w:World} {base:Nat} {V:Value} {us:List Value} {T:List (List Rat)} {vp:Value} (h:TabD w base V us T vp):SlT .i64 10000 w V T:=by
 refine ⟨us,h.len,?_,fun i u r hu hr=>(h.own i u r hu hr).1⟩;have h1:=h.row.1;rcases h1.2 with ⟨e,h0⟩|⟨g,cap,cur,e,_,hg,hn,hm,_,_⟩
 ·obtain rfl:us=[]:=List.length_eq_zero_iff.1 h0;exact ⟨none,0,e,by simp,by unfold maxLen;omega,fun i u hu=>by simp at hu⟩
 ·exact ⟨_,cap,e,hn,hm,fun i u hu=>⟨_,rfl,World.ownsRow.cells h1 (g:=g) (by rw [e];rfl) i u hu⟩⟩
theorem zD.addr {w:World} {base:Nat} {e:TypeId} {V:Value} {vs:List Value} (h:zD w base e V vs) (hn:0<vs.length):∃ g c,V=.slice (some ⟨g,0,none⟩) vs.length c/\vs.length<=c:=by
 rcases h.2 with ⟨e,h0⟩|⟨g,cap,cur,e,_,hg,hn,hm,_,_⟩
 ·omega
 ·exact ⟨g,cap,e,hn⟩
section
variable {P:Program}
theorem jL0 {w:World} {ops:Array Oper} {rest:List Oper} {o:Oper} {a:Act} {Q:Exit->Act->World->Prop} (hgd:o.guard=none) (s x:Operand) {t:TypeId}
  (ho:o.op=.call { callee:=.builtin .append,args:=#[s,x],argTypes:=#[t,t] })
  {base g:Nat} {e:TypeId} (hT:P.underlying t=some (.slice e)) (hI:∃ i,P.info? e=some i/\i.zero=some (.slice none 0 0)/\i.size=1/\i.bytes=24) {news:List Value} (hs:a.eval s=.slice (some ⟨g,0,none⟩) 0 0) (hown:zC8 zH6 w base e (.slice (some ⟨g,0,none⟩) 0 0) []) {A:Option Addr} {m c:Nat} (hx:a.eval x=.slice A m c) (hm:m=news.length)
  (hr:∀ (i:Nat) (u:Value),news[i]?=some u -> ∃ ad,A=some ad/\w.cell? (ad.add i)=some u) (h1:∀ u∈news,zH6 u) (hlen:m<=1000000000) (hbase:base<=w.heap.size)
  (h:∀ v' w',zC8 zH6 w' base e v' news->Hid (w.grownBy w' (some g))->wpList P ops Q rest (a.put o.dst v') w'):wpList P ops Q (o :: rest) a w:=by
 by_cases hn:news=[]
 ·subst hn;have hm0:m=0:=hm;subst hm0;obtain ⟨i,hi,hz,hsz,hby⟩:=hI;refine wpList_plain hgd fun _ hK => ?_
  have hrun:(Builtin.append_ #[t,t] o.type #[.slice (some ⟨g,0,none⟩) 0 0,.slice A 0 c]).run P w=.ok (.slice (some ⟨g,0,none⟩) 0 0) w:=by
   cases A with
   | none=>simp [Builtin.append_,go_sem,run_underlying hT,sizeOf,typeInfo,hi,Builtin.lenOf,Builtin.firstCells,storeCells]
   | some ad=>simp [Builtin.append_,go_sem,run_underlying hT,sizeOf,typeInfo,hi,hsz,Builtin.lenOf,Builtin.firstCells,storeCells]
  unfold Oper.wp execOp;simp only [ho,resolve,invoke,builtin,Sem.run_bind,Sem.run_pure,Result.andThen_ok,bX7,List.map_cons,List.map_nil,hs,hx,hrun];exact hK _ _ (h _ _ hown (World.grownBy.refl _ _))
 ·have hpos:0<news.length:=List.length_pos_iff.2 hn;obtain ⟨ad,rfl,_⟩:=hr 0 _ (zA3 hpos);refine yL0 hgd s x ho hT hI hs hown hx hm (by omega) (fun i u hu => ?_) h1 (by simpa using hlen) hbase fun v' w' h2 h3 h4=>h v' w' (by simpa using h2) h3;obtain ⟨ad',e,hc⟩:=hr i u hu;injection e with e;subst e;exact hc
end
def RetRd (T0:List (List Rat)) (n C S:Nat) (w:World) (e:Ending) (w':World):Prop:=∃ V v U qs,e=.returned (.tuple #[V,v])/\SlT .i64 10000 w' V U/\PvI w' v qs/\Rdc T0 U n C C qs S/\Below w.heap.size w w'
theorem Rdc.small {T0 T:List (List Rat)} {n C a S:Nat} {ps:List Nat} (h:Rdc T0 T n C a ps S) (hk:ps.length<n) (hS:(S+1)*2^n<=1900):zG0 T 950:=by
 obtain ⟨S',h1,h2⟩:=h.len;refine h1.mono ?_;have h3:(S+1)*2^(ps.length+1)<=(S+1)*2^n:=Nat.mul_le_mul_left _ (bX9 (by omega) (by omega));rw [Nat.pow_succ,<- Nat.mul_assoc] at h3;omega
def RdOk (T:List (List Rat)) (S:Nat):Prop:=T.length<=5/\zC T<=200/\zG0 T S/\(S+1)*2^T.length<=1900 /\ ∀ r∈T,r.length=zC T
theorem yM0 (a0:Value) (T0:List (List Rat)) (S:Nat) (w:World) (h0:SlT .i64 10000 w a0 T0) (hc:Hid (RdOk T0 S)) :
    Calls prog 43 #[a0] w (RetRd T0 T0.length (zC T0) S w):=by
  have st0:=h0;obtain ⟨n,hn⟩:∃ n,n=T0.length:=⟨_,rfl⟩;obtain ⟨C,hC⟩:∃ C,C=zC T0:=⟨_,rfl⟩;have hn5:n<=5:=by rw [hn];exact hc.out.1
  have hC2:C<=200:=by rw [hC];exact hc.out.2.1
  have HSH:Hid (shp T0 n C):=⟨hn.symm,fun r hr=>by rw [hC];exact hc.out.2.2.2.2 r hr⟩
  have hC0:0<C->0<n:=fun h=>by
    rcases bY3 n with e | e
    · rw [hn] at e;rw [hC,List.length_eq_zero_iff.1 e] at h;exact absurd h (by decide)
    · exact e
  obtain ⟨us0,hul,⟨A0,c0,rfl,hucap,humax,hucell⟩,hus⟩:=h0;have HST:=hQ9 st0;have hul2:us0.length=n:=by rw [hn];exact hul
  rw [hul2] at st0 HST hucap |-;have HC:=hQ9 (zA hn hC);have ba:=zC6 (w:=w) (zB1 _) (.cells #[] 45);have RX0:=qP9 zH6 w w.heap.size 45 (zB1 _)
  have hcells:∀ (i:Nat) (u:Value),us0[i]?=some u -> ∃ ad,A0=some ad/\(w.alloc (.cells #[] 45)).cell? (ad.add i)=some u:=fun i u hu=>by
    obtain ⟨ad,h1,h2⟩:=hucell i u hu;exact ⟨ad,h1,(ba.cell (bQ0 _ _ h2)).trans h2⟩
  have hsl0:∀ u∈us0,zH6 u:=fun u hu=>by
    obtain ⟨i,hi⟩:=List.mem_iff_getElem?.1 hu;obtain ⟨r,hr⟩:∃ r,T0[i]?=some r:=⟨_,zA3 (by rw [<- hul];exact (zA4.1 hi).1)⟩;obtain ⟨A,c,e,_⟩:=(hus i u r hi hr).shape;exact ⟨_,_,_,e⟩
  have HUS:=hQ9 hus;have hbs:w.heap.size<=(w.alloc (.cells #[] 45)).heap.size:=ba.size;clear hn hC hul hus hucell st0 humax
  go_enter func43,ntmps43
  go_wp2_with (at_builtin;refine jL0 rfl (.tmp 10) (.tmp 11) rfl underlying23 qV8 rfl RX0 rfl hul2.symm hcells hsl0 (by omega) hbs ?_;intro V w4 RX4 HG4)
  have b04:Below w.heap.size w w4:=ba.grown HG4.out ba.size (fun g hg=>by injection hg with hg;omega);have ba4:=zC6 (w:=w4) (zB1 _) (.cells #[] 3);have RP5:=qP9 isI w4 w4.heap.size 3 (zB1 _);have RP5':zC8 isI _ w.heap.size 3 _ []:=RP5.weak b04.size
  have TD5:TabD (w4.alloc (.cells #[] 3)) w.heap.size V us0 T0 (.slice (some ⟨w4.heap.size,0,none⟩) 0 0):=by
    refine ⟨RX4.bQ ba4,by rw [hul2];exact HC.out.1,fun i u r hu hr => ?_⟩
    exact (jL ((HUS.out i u r hu hr).bQ b04) (fun g hg=>by
      obtain rfl:w4.heap.size=g:=by simpa [Value.ownBlock] using hg
      exact zB1 _)).bQ ba4
  have b05:Hid (Below w.heap.size w (w4.alloc (.cells #[] 3))):=b04.trans (ba4.mono b04.size);have HD0:Hid (Rdc T0 T0 n C 0 [] S):=Rdc.start HSH.out hc.out.2.2.1;clear ba RX0 hcells RX4 HG4 b04 ba4 RP5 hsl0 hbs HUS hul2;go_wp2
  go_loopw [5,6] (fun v5 v6 wr => ∃ (j:Nat) (T:List (List Rat)) (us:List Value) (ps:List Nat),j<=C/\Hid (Rdc T0 T n C j ps S)/\TabD wr w.heap.size V us T v5/\zC8 isI wr w.heap.size 3 v5 (pI ps)/\Hid (Below w.heap.size w wr)/\v6=.int .i64 (j:Int)) (fun _ v6 _=>C-(intOf v6).toNat)
  case atStart=>exact ⟨0,T0,us0,[],by omega,HD0,TD5,RP5',b05,rfl⟩
  case round =>
    clear TD5 RP5' b05 HD0;obtain ⟨j,T,us,ps,hj,HD,TD,RP,HB,rfl⟩:=hrel;obtain ⟨wo,hwo⟩:∃ wo,wo=wr:=⟨_,rfl⟩;subst hwo;obtain ⟨A5,c5,e5⟩:=zD.slice RP.1;rw [zN5] at e5;subst e5;have hstw:=HST.out.bQ HB.out;go_wp2_with fail
    refine (yH8 _ T0 _ hstw).mono ?_;rintro e w6 ⟨rfl,b6⟩;rw [<- HC.out.2];have TD6:=TD.bQ b6;have RP6:=RP.bQ b6;have HB6:Hid (Below w.heap.size w w6):=HB.out.trans (b6.mono HB.out.size);clear TD RP HB b6 hstw;by_cases hlt:j<C
    · have hn0:=hC0 (by omega);have hTl : T.length = n:=HD.out.sh.1;have hul : us.length = n:=by rw [TD6.len]; exact hTl
      obtain ⟨g,cV,eV,hcV⟩:=zD.addr TD6.row.1 (by omega);rw [hul] at eV;rw [hul] at hcV;subst eV;have hpn:ps.length<=n:=HD.out.ech.le;have HTL:=hQ9 (zA hTl hul);clear hTl hul;go_wp2
      go_loopw [8] (fun v8 wr => ∃ k:Nat,ps.length<=k/\k<=n/\Hid (∀ i,ps.length<=i->i<k->zB6 T i j=0)/\Hid (Below w6.heap.size w6 wr)/\v8=.int .i64 (k:Int)) (fun v8 _=>n-(intOf v8).toNat)
      case atStart=>exact ⟨ps.length,zB1 _,hpn,(by show ∀ i,_;intro i h1 h2;omega),Below.refl _ _,rfl⟩
      case round =>
        obtain ⟨k,hpk,hkn,HZ,HB7,rfl⟩:=hrel;by_cases hk:k<n
        · obtain ⟨r, hr, hrl, hq⟩ := zR8 HD.out.sh hk hlt;obtain ⟨q,hqe⟩ : ∃ q,q = zB6 T k j:=⟨_,rfl⟩;rw [<- hqe] at hq;have HQE:=hQ9 hqe;obtain ⟨Ar,cr,hur,ecr,sr⟩:=(TD6.bQ HB7.out).at_ hr;obtain ⟨gr,or,uq,tq,rfl,hia,k0,k1,k2,sq,dq⟩:=sr.1.at_ hq;obtain ⟨Aq,cq,rfl,_⟩:=id sq;obtain ⟨Dq,eq,rfl,_⟩:=id dq;have hix:=fun w => zG6 (P:=prog) underlying45 (by kernel_rfl) (g:=gr) (o:=or) (c:=cr) hia w;have kq : IsP wr (.agg #[.bool (ngB q.num),.slice Aq (digs 10000 q.num.natAbs).length cq,.slice Dq (digs 10000 q.den).length eq]) q:=⟨_,_,rfl,sq,dq⟩;clear hr hq sr hqe hrl hur;by_cases hq0:q=0
          · have CZ:=yE6 _ q true _ kq (decide_eq_true hq0).symm
            have HZ2:Hid (∀ i,ps.length<=i->i<k+1->zB6 T i j=0):=by
              show ∀ i,_
              intro i h1 h2;by_cases e:i=k
              · subst e;rw [<- HQE.out];exact hq0
              · exact HZ.out i h1 (by omega)
            clear hq0 kq;go_wp2_with fail
            refine CZ.mono ?_;rintro e w8 ⟨rfl,b8⟩;have HB8:Hid (Below w6.heap.size w6 w8):=HB7.out.trans (b8.mono HB7.out.size);clear CZ HB7 HZ;go_wp2;go_roundw;case rel=>exact ⟨k+1,by omega,by omega,HZ2,HB8,by go_num⟩
            case measure=>simp [intOf];omega
          · have CZ:=yE6 _ q false _ kq (decide_eq_false hq0).symm;have HNE:Hid (zB6 T k j≠0):=by show _≠_;rw [<- HQE.out];exact hq0
            clear hq0 kq;go_wp2_with fail
            refine CZ.mono ?_;rintro e w8 ⟨rfl,b8⟩;have b68:=HB7.out.trans (b8.mono HB7.out.size);have TD8:=TD6.bQ b68;have RP8:=RP6.bQ b68;have HB8:Hid (Below w.heap.size w w8):=HB6.out.trans (b68.mono HB6.out.size);have hkb:((k:Int) == (n:Int))=false:=by rw [beq_eq_false_iff_ne];omega
            obtain ⟨w8',hw8⟩:∃ w8',w8'=w8:=⟨_,rfl⟩;subst hw8;clear CZ HB7 HZ TD6 RP6 HB6 b68 b8 k0 k1 k2 sq dq ecr hix;have hat:ps.length<n:=by omega
            have hgb:w.heap.size<=g:=TD8.row.1.base_le g rfl;have HGB:=hQ9 hgb;go_upto_region 11 with (fail)
            go_cut [] from 43 to 56 (fun wx => ∃ us2:List Value,TabD wx w.heap.size (.slice (some ⟨g,0,none⟩) n cV) us2 (zG4 T ps.length k) (.slice A5 ps.length c5)/\zC8 isI wx w.heap.size 3 (.slice A5 ps.length c5) (pI ps)/\Hid (Below w.heap.size w wx))
            case first =>
              by_cases hke:k=ps.length
              · subst hke;obtain ⟨rk,hrk,-⟩:=zI0 HD.out.sh hat;obtain ⟨Ak,ck,huk,eck,srk⟩:=TD8.at_ hrk;have fk:=TD8.row.1.frozenAt ps.length;have HRK:=hQ9 hrk;clear hrk;go_region
                all_goals
                  have TD9:=TD8.set ps.length srk;have srk9:=TD8.keepP (zE9 w8' g ps.length (.slice Ak rk.length ck)) srk;have TD10:=TD9.set ps.length srk9;rw [show (T.set ps.length rk).set ps.length rk=zG4 T ps.length ps.length by unfold zG4;rw [zJ2 HRK.out]] at TD10;have G10:w8'.grownBy ((w8'.setCell ⟨g,ps.length,none⟩ (.slice Ak rk.length ck)).setCell ⟨g,ps.length,none⟩ (.slice Ak rk.length ck)) (some g):=(zE9 w8' g ps.length (.slice Ak rk.length ck)).trans (zE9 _ g ps.length (.slice Ak rk.length ck));have RP10:=RP8.grown G10 (fun x e1 e2=>RP8.apart TD8.row (by decide) x e1 e2);have HB10:Hid (Below w.heap.size w _):=HB8.out.grown G10 HB8.out.size (fun q e=>by injection e with e;have:=HGB.out;omega);have bdr:=(Below.refl ((w8'.setCell ⟨g,ps.length,none⟩ (.slice Ak rk.length ck)).setCell ⟨g,ps.length,none⟩ (.slice Ak rk.length ck)).heap.size ((w8'.setCell ⟨g,ps.length,none⟩ (.slice Ak rk.length ck)).setCell ⟨g,ps.length,none⟩ (.slice Ak rk.length ck))).drew;have TD11:=TD10.bQ bdr;have RP11:=RP10.bQ bdr;have HB11:Hid (Below w.heap.size w _):=HB10.out.trans (bdr.mono HB10.out.size);clear TD9 srk9 TD10 G10 RP10 HB10 bdr TD8 RP8 HB8 srk;go_wp2
                  go_meet
                  exact ⟨_,TD11,RP11,HB11.out⟩
              · have hke2:¬ ps.length=k:=fun e=>hke e.symm;obtain ⟨rk,hrk,-⟩:=zI0 HD.out.sh hat;obtain ⟨rf,hrf,-⟩:=zI0 HD.out.sh hk;obtain ⟨Ak,ck,huk,eck,srk⟩:=TD8.at_ hrk;obtain ⟨Af,cf,huf,ecf,srf⟩:=TD8.at_ hrf;have fk:=TD8.row.1.frozenAt ps.length;have ff:=TD8.row.1.frozenAt k;have HRK:=hQ9 (zA hrk hrf);clear hrk hrf;go_region
                all_goals
                  have TD9:=TD8.set ps.length srf;have srk9:=TD8.keepP (zE9 w8' g ps.length (.slice Af rf.length cf)) srk;have TD10:=TD9.set k srk9;rw [show (T.set ps.length rf).set k rk=zG4 T ps.length k by unfold zG4;rw [zJ2 HRK.out.1,zJ2 HRK.out.2]] at TD10;have G10:w8'.grownBy ((w8'.setCell ⟨g,ps.length,none⟩ (.slice Af rf.length cf)).setCell ⟨g,k,none⟩ (.slice Ak rk.length ck)) (some g):=(zE9 w8' g ps.length (.slice Af rf.length cf)).trans (zE9 _ g k (.slice Ak rk.length ck));have RP10:=RP8.grown G10 (fun x e1 e2=>RP8.apart TD8.row (by decide) x e1 e2);have HB10:Hid (Below w.heap.size w _):=HB8.out.grown G10 HB8.out.size (fun q e=>by injection e with e;have:=HGB.out;omega);have bdr:=(Below.refl ((w8'.setCell ⟨g,ps.length,none⟩ (.slice Af rf.length cf)).setCell ⟨g,k,none⟩ (.slice Ak rk.length ck)).heap.size ((w8'.setCell ⟨g,ps.length,none⟩ (.slice Af rf.length cf)).setCell ⟨g,k,none⟩ (.slice Ak rk.length ck))).drew;have TD11:=TD10.bQ bdr;have RP11:=RP10.bQ bdr;have HB11:Hid (Below w.heap.size w _):=HB10.out.trans (bdr.mono HB10.out.size);clear TD9 srk9 TD10 G10 RP10 HB10 bdr TD8 RP8 HB8 srk srf;go_wp2
                  go_meet
                  exact ⟨_,TD11,RP11,HB11.out⟩
            case rest =>
              obtain ⟨us2,TD9',RP9',HB9'⟩:=hcut;obtain ⟨w9,hw9⟩:∃ w9,w9=wc:=⟨_,rfl⟩;subst hw9;clear TD8 RP8 HB8 hgb;obtain ⟨T1,hT1⟩:∃ T1,T1=zG4 T ps.length k:=⟨_,rfl⟩;rw [<- hT1] at TD9';have hs1:shp T1 n C:=by rw [hT1];exact qG6 HD.out.sh hat hk
              obtain ⟨r1,hr1,hrl1,hq1⟩:=zR8 hs1 hat hlt;obtain ⟨q1,hqe⟩:∃ q1,q1=zB6 T1 ps.length j:=⟨_,rfl⟩;rw [<- hqe] at hq1
              have hqf:q1=zB6 T k j:=by
                rw [hqe,hT1,qN7 HD.out.sh hat hk];exact congrFun (if_pos rfl) j
              have hq0:q1≠0:=by rw [hqf];exact HNE.out
              have hR1:zG0 T1 950:=by rw [hT1];exact qU9 HD.out.sh hat hk (HD.out.small hat (by have:=hc.out.2.2.2.1;rwa [<- HC.out.1] at this))
              have hLr:zK8 r1 950:=hR1 r1 (zA5 hr1);obtain ⟨X,hX⟩:∃ X,X=q1⁻¹:=⟨_,rfl⟩;have hLX:zC2 X 950:=by rw [hX];exact yD2 hq0 (hLr.len q1 (zA5 hq1))
              have CV:∀ w a,IsP w a q1->Calls prog 85 #[a] w (qA8 X w):=fun w a h1=>by rw [hX];exact yX a q1 w h1 hq0
              have HLS:Hid ((zF1 r1 X).length<=r1.length/\r1.length<=1000000/\(∀ x∈r1,zC2 x 10000)/\zC2 X 10000):=⟨by rw [qB0];exact zB1 _,by omega,fun x hx=>(hLr.len x hx).mono (by omega),hLX.mono (by omega)⟩;have HE:=hQ9 (zA hT1 (zA hs1 (zA hr1 (zA hrl1 (zA hq1 (zA hqe (zA hqf (zA hq0 (zA hR1 (zA hX hLr))))))))));have bd:=(Below.refl w9.heap.size w9).drew;have TDd:=TD9'.bQ bd;have RPd:=RP9'.bQ bd;have HBd:Hid (Below w.heap.size w w9.drew):=HB9'.out.trans (bd.mono HB9'.out.size);obtain ⟨Ar,cr,hur,ecr,sr⟩:=TDd.at_ hr1;obtain ⟨gr,or,uq,tq,rfl,hia,k0,k1,k2,sq,dq⟩:=sr.1.at_ hq1;obtain ⟨Aq,cq,rfl,_⟩:=id sq;obtain ⟨Dq,eq,rfl,_⟩:=id dq;have hix:=fun w=>zG6 (P:=prog) underlying45 (by kernel_rfl) (g:=gr) (o:=or) (c:=cr) hia w;have kq:IsP w9.drew (.agg #[.bool (ngB q1.num),.slice Aq (digs 10000 q1.num.natAbs).length cq,.slice Dq (digs 10000 q1.den).length eq]) q1:=⟨_,_,rfl,sq,dq⟩;have hps2:Hid (∀ g,(Value.slice A5 ps.length c5).ownBlock=some g->g<w9.drew.heap.size):=fun g hg=>RPd.1.under g hg;clear TD9' RP9' HB9' hT1 hs1 hrl1 hqe hqf hq0 hR1 hX hLX hLr hur;clear hr1 hq1;go_upto_region 12 with (fail)
              go_cut [] from 57 to 72 (fun wx => ∃ us3:List Value,TabD wx w.heap.size (.slice (some ⟨g,0,none⟩) n cV) us3 (T1.set ps.length (zF1 r1 X)) (.slice A5 ps.length c5)/\zC8 isI wx w.heap.size 3 (.slice A5 ps.length c5) (pI ps)/\Hid (Below w.heap.size w wx))
              case first =>
                go_region_law (first
                  | (go_simp;go_at_call 85;refine (CV _ _ (by exact kq)).mono ?_;rintro e w10 ⟨v10,rfl,k10,b10⟩;obtain ⟨u10,t10,rfl,s10,d10⟩:=id k10;obtain ⟨A10,c10,rfl,_⟩:=id s10;obtain ⟨D10,e10,rfl,_⟩:=id d10;have sr10:=sr.1.bQ b10;have ecr10:=(b10.cell (bQ0 _ _ ecr)).trans ecr)
                  | (go_simp;go_at_call 84;refine (jJ3 _ _ r1 X _ (by exact sr10) (by exact k10) HLS.out).mono ?_;rintro e w11 ⟨Vn,rfl,SN,b11⟩;obtain ⟨An,cn,rfl,-,-⟩:=SN.sl.shape;have TD11:=(TDd.bQ b10).bQ b11;have f11:=TD11.row.1.frozenAt ps.length;obtain ⟨A12,c12,-,e12,-⟩:=TD11.at_ HE.out.2.2.1))
                all_goals
                  have hps10:∀ g,(Value.slice A5 ps.length c5).ownBlock=some g->g<w10.heap.size:=fun g hg=>bY2 (hps2.out g hg) b10.size;have OW:zM4 w11 (.slice A5 ps.length c5) (.slice An (zF1 r1 X).length cn) (zF1 r1 X):=⟨SN.sl,fun _=>SN.far hps10⟩;have TD13:=TD11.set ps.length OW;have RP11:=(RPd.bQ b10).bQ b11;have RP13:=RP11.grown (zE9 w11 g ps.length (.slice An (zF1 r1 X).length cn)) (fun x e1 e2=>RP11.apart TD11.row (by decide) x e1 e2);have HB11:=(HBd.out.trans (b10.mono HBd.out.size)).trans (b11.mono (HBd.out.trans (b10.mono HBd.out.size)).size);have HB13:Hid (Below w.heap.size w _):=HB11.grown (zE9 w11 g ps.length (.slice An (zF1 r1 X).length cn)) HB11.size (fun q e=>by injection e with e;have:=HGB.out;omega);clear TD11 RP11 OW SN HB11 TDd RPd HBd kq sr sr10 k10 s10 d10;go_wp2
                  go_meet
                  exact ⟨_,TD13,RP13,HB13.out⟩
              case rest =>
                obtain ⟨us3,TD13,RP13,HB13⟩:=hcut;obtain ⟨w13,hw13⟩:∃ w13,w13=wc:=⟨_,rfl⟩;subst hw13;clear TDd RPd HBd kq sr k0 k1 k2 ecr hix CV sq dq hps2;have hkl:ps.length<T1.length:=by rw [HE.out.2.1.1];exact hat
                obtain ⟨T2,hT2⟩:∃ T2,T2=T1.set ps.length (zF1 r1 X):=⟨_,rfl⟩;rw [<- hT2] at TD13
                have eT2:T2=zN4 (zG4 T ps.length k) ps.length (zB6 (zG4 T ps.length k) ps.length j)⁻¹:=by
                  rw [hT2,zN4,<- HE.out.1,zJ2 HE.out.2.2.1,HE.out.2.2.2.2.2.2.2.2.2.1,HE.out.2.2.2.2.2.1]
                have hs2:shp T2 n C:=by rw [hT2];exact qB6 HE.out.2.1 (by rw [qB0];exact HE.out.2.2.2.1)
                obtain ⟨p,hp⟩:∃ p,p=zF1 r1 X:=⟨_,rfl⟩;have hp2:T2[ps.length]?=some p:=by rw [hT2,hp];exact bQ3 hkl
                have hR2:zG0 T2 950:=by
                  rw [hT2];intro x hx;rcases bW3 hx with hx | rfl
                  · exact HE.out.2.2.2.2.2.2.2.2.1 x hx
                  · rw [HE.out.2.2.2.2.2.2.2.2.2.1];exact HE.out.2.2.2.2.2.2.2.2.2.2.scale (zA5 HE.out.2.2.2.2.1) HE.out.2.2.2.2.2.2.2.1
                have HPV:Hid (zF7 T2 (fun i=>decide (i≠ps.length)) p j n=zJ7 T (fun i=>decide (i≠ps.length)) ps.length k j n):=by
                  show _=_
                  unfold zJ7;rw [<- eT2,zJ2 hp2]
                have HDN:Hid (Rdc T0 (zJ7 T (fun i=>decide (i≠ps.length)) ps.length k j n) n C (j+1) (ps ++ [j]) S):=HD.out.pivot hlt hpk hk HNE.out;have hpl:Hid (p.length=C):=hs2.2 _ (zA5 hp2);have HPL:Hid (∀ x∈p,zC2 x 2000):=fun x hx=>((hR2 p (zA5 hp2)).len x hx).mono (by omega);have H2:=hQ9 (zA hs2 (zA hp2 hR2));have HPS:Hid (pI ps ++ [.int .i64 (j:Int)]=pI (ps ++ [j])):=qP ps j;clear hT2 eT2 hs2 hp2 hR2 hp hkl;go_wp2
                go_loopw [9] (fun v9 wr => ∃ (i:Nat) (us4:List Value),i<=n/\TabD wr w.heap.size (.slice (some ⟨g,0,none⟩) n cV) us4 (zF7 T2 (fun i=>decide (i≠ps.length)) p j i) (.slice A5 ps.length c5)/\zC8 isI wr w.heap.size 3 (.slice A5 ps.length c5) (pI ps)/\Hid (Below w.heap.size w wr)/\v9=.int .i64 (i:Int)) (fun v9 _=>n-(intOf v9).toNat)
                case atStart=>exact ⟨0,us3,by omega,TD13,RP13,HB13,rfl⟩
                case round =>
                  clear TD13 RP13 HB13;obtain ⟨i,us4,hin,TD,RP,HB,rfl⟩:=hrel;obtain ⟨wq,hwq⟩:∃ wq,wq=wr:=⟨_,rfl⟩;subst hwq;by_cases hi:i<n
                  · by_cases hia2:i=ps.length
                    · subst hia2;have HNX:Hid (zF7 T2 (fun i=>decide (i≠ps.length)) p j (ps.length+1)=zF7 T2 (fun i=>decide (i≠ps.length)) p j ps.length):=qU7 (by simp);go_wp2;go_roundw;case rel=>exact ⟨ps.length+1,us4,by omega,by rw [HNX.out];exact TD,RP,HB,by go_num⟩
                      case measure=>simp [intOf];omega
                    · have hnb:((i:Int) == (ps.length:Int))=false:=by rw [beq_eq_false_iff_ne];omega
                      obtain ⟨r,hr,hrl,hq⟩:=zR8 H2.out.1 hi hlt;obtain ⟨q,hqe⟩:∃ q,q=zB6 T2 i j:=⟨_,rfl⟩;rw [<- hqe] at hq;have hrU:(zF7 T2 (fun i=>decide (i≠ps.length)) p j i)[i]?=some r:=by rw [qG7 _ _ _ _ i i (zB1 _)];exact hr
                      have hpU:(zF7 T2 (fun i=>decide (i≠ps.length)) p j i)[ps.length]?=some p:=by rw [qU6 (by simp)];exact H2.out.2.1
                      have bd:=(Below.refl wq.heap.size wq).drew;have TDd:=TD.bQ bd;have RPd:=RP.bQ bd;have HBd:Hid (Below w.heap.size w wq.drew):=HB.out.trans (bd.mono HB.out.size);obtain ⟨Ar,cr,hur,ecr,sr⟩:=TDd.at_ hrU;obtain ⟨Ap,cp,hup,ecp,sp⟩:=TDd.at_ hpU;obtain ⟨gr,or,uq,tq,rfl,hia,k0,k1,k2,sq,dq⟩:=sr.1.at_ hq;obtain ⟨Aq,cq,rfl,_⟩:=id sq;obtain ⟨Dq,eq,rfl,_⟩:=id dq;have hix:=fun w=>zG6 (P:=prog) underlying45 (by kernel_rfl) (g:=gr) (o:=or) (c:=cr) hia w;have kq:IsP wq.drew (.agg #[.bool (ngB q.num),.slice Aq (digs 10000 q.num.natAbs).length cq,.slice Dq (digs 10000 q.den).length eq]) q:=⟨_,_,rfl,sq,dq⟩;have hps2:Hid (∀ g,(Value.slice A5 ps.length c5).ownBlock=some g->g<wq.drew.heap.size):=fun g hg=>RPd.1.under g hg;have HRE:=hQ9 (zA hr (zA hrU hpU));have hLr:=H2.out.2.2 r (zA5 hr);have HRL:Hid (r.length=p.length):=hrl.trans hpl.out.symm;have HLS:Hid ((zG2 r q p).length<=r.length/\r.length<=1000000/\(∀ x∈r,zC2 x 2000)/\(∀ x∈p,zC2 x 2000)/\zC2 q 2000):=⟨by rw [qM7 HRL.out];exact zB1 _,by omega,fun x hx=>(hLr.len x hx).mono (by omega),HPL.out,(hLr.len q (zA5 hq)).mono (by omega)⟩
                      have HNX:Hid ((zF7 T2 (fun i=>decide (i≠ps.length)) p j i).set i (zG2 r q p)=zF7 T2 (fun i=>decide (i≠ps.length)) p j (i+1)):=by
                        show _=_
                        rw [qN9 (by simpa using hia2) hr,hqe]
                      clear hr hq hqe hrU hpU hLr hur hup hrl TD RP HB bd;go_upto_region 17 with (fail)
                      go_region_law (go_simp;go_at_call 86;refine (jJ4 _ _ _ r q p _ (by exact sr.1) (by exact kq) (by exact sp.1) HRL.out HLS.out).mono ?_;rintro e w15 ⟨Vn,rfl,SN,b15⟩;obtain ⟨An,cn,rfl,-,-⟩:=SN.sl.shape;have TD15:=TDd.bQ b15;have f15:=TD15.row.1.frozenAt i;obtain ⟨A16,c16,-,e16,-⟩:=TD15.at_ HRE.out.2.1)
                      all_goals
                        have OW:zM4 w15 (.slice A5 ps.length c5) (.slice An (zG2 r q p).length cn) (zG2 r q p):=⟨SN.sl,fun _=>SN.far hps2.out⟩;have TD17:=TD15.set i OW;rw [HNX.out] at TD17;have RP15:=RPd.bQ b15;have RP17:=RP15.grown (zE9 w15 g i (.slice An (zG2 r q p).length cn)) (fun x e1 e2=>RP15.apart TD15.row (by decide) x e1 e2);have HB15:=HBd.out.trans (b15.mono HBd.out.size);have HB17:Hid (Below w.heap.size w _):=HB15.grown (zE9 w15 g i (.slice An (zG2 r q p).length cn)) HB15.size (fun q e=>by injection e with e;have:=HGB.out;omega);clear TD15 RP15 OW SN HB15 TDd RPd HBd kq sr sp;go_wp2;go_roundw;case rel=>exact ⟨i+1,_,by omega,TD17,RP17,HB17,by go_num⟩
                        case measure=>simp [intOf];omega
                  · obtain rfl:i=n:=by omega
                    rw [HPV.out] at TD;have ba:=zC6 (w:=wq) (zB1 _) (.cells #[.int .i64 (j:Int)] 3);have TD11:=TD.bQ ba;have RP11:=RP.bQ ba;have HB11:Hid (Below w.heap.size w _):=HB.out.trans (ba.mono HB.out.size);have hbase:w.heap.size<=(wq.alloc (.cells #[.int .i64 (j:Int)] 3)).heap.size:=HB11.out.size;have hone:=cell_one_new wq (.int .i64 (j:Int)) 3;have hlp:(pI ps).length+1<=1000000000:=by rw [zN5];omega
                    clear TD RP HB ba
                    go_wp2_with (at_builtin;refine qH7 rfl (.tmp 101) (.tmp 103) rfl underlying36 info_int rfl RP11 rfl rfl (by decide) hone (fun u hu=>by (obtain rfl:=List.mem_singleton.1 hu;exact ⟨_,rfl⟩)) hlp hbase ?_;intro v12 w12 RP12 HG12 HX12)
                    have TD12:=TD11.piv (grew_of HG12.out HX12.out) (fun x e1 e2=>RP11.apart TD11.row (by decide) x e2 e1);have HB12:Hid (Below w.heap.size w w12):=HB11.out.grown HG12.out HB11.out.size (fun x e=>RP11.1.base_le x e);rw [HPS.out] at RP12;clear TD11 RP11 HB11 hone;go_wp2;go_roundw;case rel=>exact ⟨j+1,_,us4,ps ++ [j],by omega,HDN,TD12,RP12,HB12,by go_num⟩
                    case measure=>simp [intOf];omega
        · obtain rfl:k=n:=by omega
          have HD5:Hid (Rdc T0 T k C (j+1) ps S):=HD.out.skip fun i h1 h2=>HZ.out i h1 h2;have TD7:=TD6.bQ HB7.out;have RP7:=RP6.bQ HB7.out;have HB8:Hid (Below w.heap.size w wr):=HB6.out.trans (HB7.out.mono HB6.out.size);clear TD6 RP6 HB7 HB6 HZ;go_wp2;go_roundw;case rel=>exact ⟨j+1,T,us,ps,by omega,HD5,TD7,RP7,HB8,by go_num⟩
          case measure=>simp [intOf];omega
    · obtain rfl:j=C:=by omega
      have HV:=hQ9 TD6.slT;have HP:=hQ9 RP6.pvI;clear TD6 RP6;go_wp2;go_ret2;exact ⟨_,_,T,ps,rfl,HV.out,HP.out,by rw [<- HC.out.1,<- HC.out.2];exact HD.out,HB6.out⟩
theorem yM1 {t:List (List Rat)} {m:Nat} (h:∀ r∈t,r.length<=m):zC t<=m:=by
 cases t with
 | nil=>exact Nat.zero_le _
 | cons r t=>exact h r List.mem_cons_self
theorem qQ {p:List (List Rat)} {m:Nat} (h2:∀ r∈p,r.length<=m) (h3:zE0 p 1):zG0 p (m+1):=fun r hr=>(qO (fun x hx=>h3 r hr x hx)).mono (by have:=h2 r hr;omega)
theorem zC8.keepH {k:IntKind} {B:Nat} {w w':World} {base:Nat} {e:TypeId} {V:Value} {vs:List Value} {v:Value} {r:List Rat} (h:zC8 zH6 w base e V vs) (hg:w.grownBy w' V.ownBlock) (hs:SlF k B w v r):SlF k B w' v r:=by
  cases ho:V.ownBlock with
  | none=>rw [ho] at hg;exact hs.bQ ⟨hg.os,hg.tape,hg.output,hg.size,fun k hk=>hg.block k hk (by simp)⟩
  | some g =>
    rw [ho] at hg;obtain ⟨cs,h1,h2⟩:=h.2 g ho;exact hs.keepX h1 (fun c hc b=>by obtain ⟨A,n,m,rfl⟩:=h2 c hc;simp) (fun c hc n=>by obtain ⟨A,n',m,rfl⟩:=h2 c hc;simp) hg
structure TabG (w:World) (base:Nat) (V:Value) (us:List Value) (K:List (List Rat)):Prop where
 row:zC8 zH6 w base 45 V us
 len:us.length=K.length
 own:∀ (i:Nat) (u:Value) (r:List Rat),us[i]?=some u->K[i]?=some r->SlF .i64 10000 w u r
theorem TabG.bQ {w w':World} {base:Nat} {V:Value} {us:List Value} {K:List (List Rat)} (h:TabG w base V us K) (hb:Below w.heap.size w w'):TabG w' base V us K:=⟨h.row.bQ hb,h.len,fun i u r hu hr=>(h.own i u r hu hr).bQ hb⟩
theorem TabG.snoc {w w':World} {base:Nat} {V V' u:Value} {us:List Value} {K:List (List Rat)} {r:List Rat} (h:TabG w base V us K) (h':zC8 zH6 w' base 45 V' (us ++ [u])) (hg:w.grownBy w' V.ownBlock) (hu:SlF .i64 10000 w u r):TabG w' base V' (us ++ [u]) (K ++ [r]):=by
 refine ⟨h',by simp [h.len],fun i a b ha hb => ?_⟩;by_cases hi:i<us.length
 ·rw [zB0 hi] at ha;rw [zB0 (by rw [<- h.len];exact hi)] at hb;exact h.row.keepH hg (h.own i a b ha hb)
 ·rw [bW0 (by omega)] at ha;rw [bW0 (by rw [<- h.len];omega),<- h.len] at hb;rcases hj:i-us.length with _ | j
  ·rw [hj] at ha hb;obtain rfl:u=a:=by simpa using ha
   obtain rfl:r=b:=by simpa using hb
   exact h.row.keepH hg hu
  ·rw [hj] at ha;simp at ha
theorem TabG.slT {w:World} {base:Nat} {V:Value} {us:List Value} {K:List (List Rat)} (h:TabG w base V us K):SlT .i64 10000 w V K:=by
 refine ⟨us,h.len,?_,h.own⟩;have h1:=h.row.1;rcases h1.2 with ⟨e,h0⟩|⟨g,cap,cur,e,_,hg,hn,hm,_,_⟩
 ·obtain rfl:us=[]:=List.length_eq_zero_iff.1 h0;exact ⟨none,0,e,by simp,by unfold maxLen;omega,fun i u hu=>by simp at hu⟩
 ·exact ⟨_,cap,e,hn,hm,fun i u hu=>⟨_,rfl,World.ownsRow.cells h1 (g:=g) (by rw [e];rfl) i u hu⟩⟩
section
variable {P:Program}
theorem jL1 {w:World} {ops:Array Oper} {o:Oper} {a:Act} {K:Act->World->Prop} {Q:Exit->Act->World->Prop} {E:Prop} (hgd:o.guard=none) (s x:Operand) {t:TypeId}
  (ho:o.op=.call { callee:=.builtin .append,args:=#[s,x],argTypes:=#[t,t] })
  {base:Nat} {e:TypeId} (hT:P.underlying t=some (.slice e)) (hI:∃ i,P.info? e=some i/\i.zero=some (.slice none 0 0)/\i.size=1/\i.bytes=24) {v:Value} {vs news:List Value} (hs:a.eval s=v) (hown:zC8 zH6 w base e v vs) {ad:Addr} {m c:Nat} (hx:a.eval x=.slice (some ad) m c) (hm:m=news.length) (hm0:0<m)
  (hr:∀ (i:Nat) (u:Value),news[i]?=some u->w.cell? (ad.add i)=some u) (h1:∀ u∈news,zH6 u) (hlen:vs.length+m<=1000000000) (hbase:base<=w.heap.size)
  (h:∀ v' w',zC8 zH6 w' base e v' (vs ++ news)->Hid (w.grownBy w' v.ownBlock)->Hid (v'.ownBlock=v.ownBlock\/v'.ownBlock=some w.heap.size)->K (a.put o.dst v') w') :
  if Region.wanted o (yielded ops a.tmps)=true then Oper.wp P o a w K Q else E:=by
 have hw:Region.wanted o (yielded ops a.tmps)=true:=by simp [Region.wanted,hgd]
 rw [if_pos hw];exact yL s x ho hT hI hs hown hx hm hm0 hr h1 hlen hbase h
end
theorem jL2 {α : Type} {l:List α} {k:Nat} {x : α} (h:l[k]?=some x):l.take (k+1)=l.take k ++ [x]:=by rw [bQ9,h];rfl
theorem zN1.cutFrom {w:World} {g o n c k:Nat} {A:Option Addr} {ps:List Elt} (h:zN1 w (.slice (some ⟨g,o,none⟩) n c) ps) (hk:k<=ps.length) (hA:k<ps.length->A=some ⟨g,o+k*3,none⟩):zN1 w (.slice A (n-k) (c-k)) (ps.drop k):=by
 obtain ⟨A',c',e,h1,h2,h3⟩:=h;injection e with e1 e2 e3;subst e1;subst e2;subst e3;refine ⟨A,c-k,by rw [bX2],by rw [bX2];omega,by omega,fun i p hp => ?_⟩;rw [bW9] at hp;have hi:=(zA4.1 hp).1;obtain ⟨g',o',e,c0,c1,c2⟩:=h3 _ p hp;injection e with e;injection e with e4 e5;subst e4;subst e5;refine ⟨g,o+k*3,hA (by omega),?_,?_,?_⟩
 ·rw [show o+k*3+i*3=o+(k+i)*3 by omega];exact c0
 ·rw [show o+k*3+i*3=o+(k+i)*3 by omega];exact c1
 ·rw [show o+k*3+i*3=o+(k+i)*3 by omega];exact c2
def InvOk (T:List (List Rat)) (S:Nat):Prop:=T.length<=4/\zC T<=200/\zG0 T S/\S<=100000/\(S+1)*2^(T.length-1)<=400/\(S+1)*2^(T.length-1)*2^(T.length-1)<=384
def zM5 (T:List (List Rat)) (n k:Nat):List (List Rat):=(T.take k).map (fun r=>r.drop n) ++ T.drop k
theorem cutT_at {T:List (List Rat)} {n k:Nat} (hk:k<=T.length):(zM5 T n k)[k]?=T[k]?:=by
 unfold zM5;have hl:((T.take k).map fun r=>r.drop n).length=k:=by rw [zA9,bQ7];omega
 rw [bW0 (by omega),hl,Nat.sub_self,bW9,Nat.add_zero]
theorem jL3 {T:List (List Rat)} {n k:Nat} {r:List Rat} (hr:T[k]?=some r):(zM5 T n k).set k (r.drop n)=zM5 T n (k+1):=by
 have hk:k<T.length:=(zA4.1 hr).1;unfold zM5;have hl:((T.take k).map fun r=>r.drop n).length=k:=by rw [zA9,bQ7];omega
 have hd:T.drop k=r :: T.drop (k+1):=by
  rw [List.drop_eq_getElem_cons hk];rw [zA3 hk] at hr;injection hr with hr;rw [hr]
 rw [List.set_append_right _ _ (by omega),hl,Nat.sub_self,hd,zA2,bQ9,hr];simp
theorem yM2 {T:List (List Rat)} {n k:Nat} (h:T.length<=k):zM5 T n k=T.map fun r=>r.drop n:=by
 unfold zM5;rw [zA7 h,List.drop_eq_nil_of_le h,List.append_nil]
theorem yM3 (T:List (List Rat)) (n:Nat) {k:Nat} (hk:k<=T.length):(zM5 T n k).length=T.length:=by
 unfold zM5;rw [zA8,zA9,bQ7,bX2];omega
theorem jL4 {n:Nat} {p:Nat->Nat} (hr:∀ i j,i<j->j<n->p i<p j) (h:p (n-1)=n-1) (hn:0<n):∀ i,i<n->p i=i:=by
  have a1:∀ i,i<n->i<=p i:=by
    intro i
    induction i with
    | zero=>intro _;omega
    | succ i ih =>
      intro hi;have h1:=ih (by omega);have h2:=hr i (i+1) (by omega) hi;omega
  have a2:∀ d,d<=n-1->p (n-1-d)<=n-1-d:=by
    intro d
    induction d with
    | zero=>intro _;rw [Nat.sub_zero,h];exact zB1 _
    | succ d ih =>
      intro hd;have h1:=ih (by omega);have h2:=hr (n-1-(d+1)) (n-1-d) (by omega) (by omega);omega
  intro i hi;have h1:=a1 i hi;have h2:=a2 (n-1-i) (by omega);rw [show n-1-(n-1-i)=i by omega] at h2;omega
def yM4 (A B:List (List Rat)) (L:Nat) (w:World) (e:Ending) (w':World):Prop:=Below w.heap.size w w'/\((zE5 A.length (zB6 A)≠0 /\ ∃ V X,e=.returned (.tuple #[V,.int .i64 0])/\SlT .u64 4294967296 w' V X/\SolQ A B X/\zE0 X L)\/(zE5 A.length (zB6 A)=0/\e=.returned (.tuple #[.slice none 0 0,.int .i64 7])))
structure StpIn (A B:List (List Rat)) (n m S:Nat):Prop where
 la:A.length=n
 sa:shp A n n
 sb:shp B n m
 wb:zC B=m
 wj:zC (zD4 A B)=n+m\/n=0
 ok:zX1 (zD4 A B) S
theorem jL5 (a0:Value) (A B:List (List Rat)) (n m S:Nat) (w:World) (h0:SlT .u64 4294967296 w a0 (zD4 A B)) (hm:zF5 (zD4 A B)) (hc:Hid (StpIn A B n m S)) :
    Calls prog 34 #[a0,.int .i64 (n:Int)] w (yM4 A B 2450 w):=by
  obtain ⟨T,hT⟩:∃ T,T=zD4 A B:=⟨_,rfl⟩;have CR:=qW5 a0 (zD4 A B) S w h0 hc.out.ok;have HJ:Hid (shp (zD4 A B) n (n+m)):=zX3 hc.out.sa hc.out.sb;obtain ⟨C,hC⟩:∃ C,C=zC (zD4 A B):=⟨_,rfl⟩;have hln:(zD4 A B).length=n:=HJ.out.1;have HC:Hid (C=n+m\/n=0):=by show _\/_;rw [hC];exact hc.out.wj
  have hn5:n<=5:=by rw [<- hln];exact hc.out.ok.1
  have hCw:C<=200:=by rw [hC];exact hm.2.1
  have HOK:Hid ((S+1)*2^(n-1)*2^(n-1)<=2450):=by
    have h:=hc.out.ok.2.2.2.2.2;rw [hln] at h;exact h
  rw [hln,<- hC] at CR;have HM:=hQ9 hm;clear hC hln hm hT
  go_enter func34,ntmps34;go_wp2_with fail
  refine CR.mono ?_;rintro e w2 (⟨-,g,v,T6,us6,ps,rfl,hR⟩|⟨hm2,_⟩)
  · obtain ⟨sh, ech, red, ker, len, tab, piv, bel, lo⟩ := hR;obtain ⟨A6,c6,e6⟩:=zD.slice piv.1;rw [zN5] at e6;subst e6;have hpn : ps.length <= n:=ech.le;have HSH:=hQ9 sh;have HE:=hQ9 (zA ech (zA red ker))
    have HL:Hid (zE0 T6 2450):=by
      obtain ⟨S2,r2,hS2⟩:=len;have h1:=qI2 (S:=S) (show min ps.length (n-1)<=n-1 by omega);have h2:(S+1)*2^(min ps.length (n-1))*2^(ps.length-1)<=(S+1)*2^(n-1)*2^(n-1):=bY6 h1 (bX9 (by omega) (by omega));have h3:=HOK.out;exact r2.len.mono (by omega)
    have pvs:=piv.pvs tab.1 (by decide);have HB:=hQ9 bel;clear len bel
    have HNO:Hid ((∃ j,j<n /\ ∀ i,i<ps.length->pv ps i≠j)->zE5 A.length (zB6 A)=0):=by
      rintro ⟨j,hj,hf⟩
      have hCm:C=n+m:=by
        rcases HC.out with h | h
        · exact h
        · omega
      subst hCm;rw [hc.out.la];have hK2:zE4 n (n+m) (zI7 n (zB6 A) (zB6 B)) (zB6 T6):=(zZ fun i j hi hj=>(qP8 hc.out.sa hc.out.sb hi).symm).trans ker;have h1:=ech_det (Nat.le_add_right n m) ech red hK2 ⟨j,hj,hf⟩;rw [<- h1];exact zQ8 n fun i j hi hj=>by unfold zI7;rw [if_pos hj]
    have HYES:Hid ((∀ j,j<n -> ∃ i,i<ps.length/\pv ps i=j)->zE5 A.length (zB6 A)≠0/\SolQ A B (T6.map fun r=>r.drop n)):=by
      intro h;rcases bY3 n with e0 | hn0
      · subst e0;have hA:A=[]:=List.length_eq_zero_iff.1 hc.out.la;have hT:T6=[]:=List.length_eq_zero_iff.1 sh.1;subst hA;subst hT;refine ⟨by decide,⟨rfl,fun r hr=>by cases hr⟩,fun i j hi => ?_⟩;exact absurd hi (Nat.not_lt_zero _)
      · have hCm:C=n+m:=by
          rcases HC.out with h | h
          · exact h
          · omega
        subst hCm;have hK2:zE4 n (n+m) (zI7 n (zB6 A) (zB6 B)) (zB6 T6):=(zZ fun i j hi hj=>(qP8 hc.out.sa hc.out.sb hi).symm).trans ker;obtain ⟨_,_,_,h4⟩:=yM (Nat.le_add_right n m) ech red hK2 h;refine ⟨?_,solq_of hc.out.sa hc.out.sb hc.out.wb sh ech red ker h⟩;rw [hc.out.la];intro e;apply h4;rw [<- e];exact zQ8 n fun i j hi hj=>by unfold zI7;rw [if_pos hj]
    have HRISE:Hid (∀ i j,i<j->j<ps.length->pv ps i<pv ps j):=ech.rise;clear sh ech red ker piv;by_cases hk2:0<n/\(ps.length<n\/pv ps (n-1)≠n-1)
    · have HZ:Hid (zE5 A.length (zB6 A)=0):=HNO.out (bQ1 fun hno=>by
        have hall:∀ j,j<n -> ∃ i,i<ps.length/\pv ps i=j:=fun j hj=>bQ1 fun h2=>hno ⟨j,hj,fun i hi e=>h2 ⟨i,hi,e⟩⟩;obtain ⟨h3,h4⟩:=qP5 HRISE.out n hall;rcases hk2.2 with h5 | h5
        · omega
        · exact h5 (h4 (n-1) (by omega)))
      obtain ⟨hn0,hk3⟩:=hk2;have hn0i:(0:Int)<(n:Int):=by omega
      clear HNO HYES;by_cases hk4:ps.length<n
      · clear hk3 pvs;go_wp2;go_ret2;exact ⟨HB.out,.inr ⟨HZ.out,rfl⟩⟩
      · have hpe:ps.length=n:=by omega
        have hk5:pv ps (n-1)≠n-1:=by
          rcases hk3 with h | h
          · exact absurd h hk4
          · exact h
        obtain ⟨ad,rfl,-,ec⟩:=pvs (n-1) (by omega);have hne:(((pv ps (n-1):Nat):Int) == (n:Int)-1)=false:=by rw [beq_eq_false_iff_ne];omega
        have hcast:(((n-1:Nat):Nat):Int)=(n:Int)-1:=by omega
        have hix:((n:Int)-1).toNat=n-1:=by omega
        clear hk3 pvs hk5;go_wp2;go_ret2;exact ⟨HB.out,.inr ⟨HZ.out,rfl⟩⟩
    · have HALL:Hid (∀ j,j<n -> ∃ i,i<ps.length/\pv ps i=j):=fun j hj=>by
        have h1:¬ ps.length<n:=fun h=>hk2 ⟨by omega,.inl h⟩;have h2:pv ps (n-1)=n-1:=bQ1 fun h=>hk2 ⟨by omega,.inr h⟩;exact ⟨j,by omega,jL4 (fun i j hi hj=>HRISE.out i j hi (by omega)) h2 (by omega) j hj⟩
      have HSOL:=hQ9 (HYES.out HALL.out);have HT6:Hid (T6.length=n):=HSH.out.1
      have HCC:Hid (0<n->C=n+m):=fun h=>by
        rcases HC.out with h2 | h2
        · exact h2
        · omega
      clear HNO HYES HALL;rcases bY3 n with hn0 | hn0
      · have hni:¬ (0:Int)<(n:Int):=by omega
        clear hk2 pvs hn0;go_wp2
        go_loopw [36] (fun v36 wr => ∃ (k:Nat) (us7:List Value),k<=n/\zD7 .u64 4294967296 wr g 44 us7 (zM5 T6 n k)/\Hid (Below w.heap.size w wr)/\v36=.int .i64 (k:Int)) (fun v36 _=>n-(intOf v36).toNat)
        case atStart=>exact ⟨0,us6,by omega,tab,HB,rfl⟩
        case round =>
          clear tab HB;obtain ⟨k,us7,hk,TS,HB7,rfl⟩:=hrel;by_cases hlt:k<n
          · exfalso;omega
          · have hke:k=n:=by omega
            have hS:SlT .u64 4294967296 wr (.slice (some ⟨g,0,none⟩) n n) (T6.map fun r=>r.drop n):=by
              have h:=TS.slT (show (zM5 T6 n k).length=n by rw [yM3 T6 n (by have:=HT6.out;omega)];exact HT6.out) (by omega);rwa [yM2 (by have:=HT6.out;omega)] at h
            have HV:=hQ9 hS;clear hS TS hke;go_wp2;go_ret2;refine ⟨HB7.out,.inl ⟨HSOL.out.1,_,_,rfl,HV.out,HSOL.out.2,?_⟩⟩;intro r hr x hx;obtain ⟨y,hy,rfl⟩:=List.mem_map.1 hr;exact HL.out y hy x (List.mem_of_mem_drop hx)
      · have hpe:ps.length=n:=Nat.le_antisymm hpn (Nat.le_of_not_lt fun h=>hk2 ⟨hn0,.inl h⟩);have hk5:pv ps (n-1)=n-1:=bQ1 fun h=>hk2 ⟨hn0,.inr h⟩;obtain ⟨ad,rfl,-,ec⟩:=pvs (n-1) (by omega);rw [hk5] at ec;have hcast:(((n-1:Nat):Nat):Int)=(n:Int)-1:=by omega
        have hix:((n:Int)-1).toNat=n-1:=by omega
        have hn0i:(0:Int)<(n:Int):=by omega
        have hpni:¬ ((ps.length:Nat):Int)<(n:Int):=by omega
        rw [hcast] at ec;have hbq:(((n:Int)-1 == (n:Int)-1))=true:=beq_self_eq_true _;clear hk2 pvs hk5;go_wp2
        go_loopw [36] (fun v36 wr => ∃ (k:Nat) (us7:List Value),k<=n/\zD7 .u64 4294967296 wr g 44 us7 (zM5 T6 n k)/\Hid (Below w.heap.size w wr)/\v36=.int .i64 (k:Int)) (fun v36 _=>n-(intOf v36).toNat)
        case atStart=>exact ⟨0,us6,by omega,tab,HB,rfl⟩
        case round =>
          clear tab HB;obtain ⟨k,us7,hk,TS,HB7,rfl⟩:=hrel;by_cases hlt:k<n
          · obtain ⟨r,hr,hrl⟩:=zI0 HSH.out hlt;have hr2:(zM5 T6 n k)[k]?=some r:=by rw [cutT_at (by have:=HT6.out;omega)];exact hr
            have HNX:Hid ((zM5 T6 n k).set k (r.drop n)=zM5 T6 n (k+1)):=jL3 hr;have hrl2:r.length=n+m:=by rw [hrl];exact HCC.out (by omega)
            obtain ⟨Ar,cr,hur,ecr,sr⟩:=TS.at_ hr2;have frr:=TS.frozenAt k;obtain ⟨gr,or,cc,esl,-,hrc,hcm⟩:=sr.place (fun e=>by rw [e] at hrl2;simp at hrl2;omega);injection esl with esl1 _ esl3;subst esl1;subst esl3;obtain ⟨psi,hpm,hVF,hIE⟩:=sr;have hpl:psi.length=r.length:=by rw [<- hpm,zA9]
            obtain ⟨A2,hA2⟩:∃ A2:Option Addr,A2=if cr=n then some ⟨gr,or,none⟩ else some ⟨gr,or+n*3,none⟩:=⟨_,rfl⟩
            have VFrom:=hVF.cutFrom (k:=n) (A:=A2) (by omega) (fun h=>by rw [hA2,if_neg (by omega)]);have sR:SlF .u64 4294967296 wr (.slice A2 (r.length-n) (cr-n)) (r.drop n):=⟨psi.drop n,by rw [List.map_drop,hpm],VFrom,fun p hp=>hIE p (List.mem_of_mem_drop hp)⟩;have hjc2:¬ cr<n:=by omega
            have hjc3:¬ r.length<n:=by omega
            have hA3:=hA2.symm;have TS2:=TS.stored k sR;rw [HNX.out] at TS2;have HB8:Hid (Below w.heap.size w _):=HB7.out.setCell (p:=⟨g,k,none⟩) lo (.slice A2 (r.length-n) (cr-n));clear hr hr2 hrl hpm hVF hIE hpl VFrom sR hA2 hur TS HB7 hrl2;go_wp2;go_roundw;case rel=>exact ⟨k+1,_,by omega,TS2,HB8,by go_num⟩
            case measure=>simp [intOf];omega
          · have hke:k=n:=by omega
            have hS:SlT .u64 4294967296 wr (.slice (some ⟨g,0,none⟩) n n) (T6.map fun r=>r.drop n):=by
              have h:=TS.slT (show (zM5 T6 n k).length=n by rw [yM3 T6 n (by have:=HT6.out;omega)];exact HT6.out) (by omega);rwa [yM2 (by have:=HT6.out;omega)] at h
            have HV:=hQ9 hS;clear hS TS hke;go_wp2;go_ret2;refine ⟨HB7.out,.inl ⟨HSOL.out.1,_,_,rfl,HV.out,HSOL.out.2,?_⟩⟩;intro r hr x hx;obtain ⟨y,hy,rfl⟩:=List.mem_map.1 hr;exact HL.out y hy x (List.mem_of_mem_drop hx)
  · exact absurd HM.out hm2
end rat
namespace nat
open Go.RowKit num mem limb
theorem jL6 (v u:Value) (x y:Nat) (w:World) (h:IsS w .u64 v (digs 4294967296 x)) (h':IsS w .u64 u (digs 4294967296 y)) (hl:(digs 4294967296 x).length<=90000) (hl':(digs 4294967296 y).length<=90000) (hp:0<x) :
  Calls prog 54 #[v,u] w (zD1 .u64 (digs 4294967296 (Nat.lcm x y)) w):=by
 obtain ⟨G,hG⟩:∃ G,G=Nat.gcd x y:=⟨_,rfl⟩;have HE:Hid (zN0 [x,y]=G):=by show _=_;rw [hG];simp [zN0]
 have hd:G∣x:=by rw [hG];exact Nat.gcd_dvd_left x y
 have hG0:0<G:=by rw [hG];exact Nat.gcd_pos_of_pos_left _ hp
 have hm:x % G=0:=Nat.mod_eq_zero_of_dvd hd;have hlG:(digs 4294967296 G).length<=90000:=zB2 (zG7 (by omega) (Nat.le_of_dvd hp hd)) hl;obtain ⟨q,hq⟩:∃ q,q=x / G:=⟨_,rfl⟩
 have hlq:(digs 4294967296 q).length<=100000:=by
  rw [hq];exact zB2 (zG7 (by omega) (Nat.div_le_self x G)) (by omega)
 have hz:Nat.lcm x y=q*y:=by
  rw [hq];show x*y / Nat.gcd x y=x / G*y
  rw [<- hG,bY0 x y,Nat.mul_div_assoc y hd,bY0]
 obtain ⟨Z,hZ⟩:∃ Z,Z=Nat.lcm x y:=⟨_,rfl⟩;rw [<- hZ] at hz |-;have HG0:=hQ9 hG0;have HM:=hQ9 hm;have HQ:=hQ9 hq;have HZ:=hQ9 hz;clear hG hd hG0 hm hq hz hZ hp;obtain ⟨A1,c1,rfl,_⟩:=id h;obtain ⟨A2,c2,rfl,_⟩:=id h'
 go_enter func54,ntmps54;go_wp2_with fail
 have hb:=zC6 (zB1 w.heap.size) (.cells #[.slice A1 (digs 4294967296 x).length c1,.slice A2 (digs 4294967296 y).length c2] 50);have ha:=h.bQ hb;have ha':=h'.bQ hb;refine (qS6 _ [_,_] [x,y] _ (zS4 w 50 [_,_]) (qK0 ha ha') (by simp) (by intro q hq;simp at hq;rcases hq with rfl|rfl;exact hl;exact hl')).mono ?_;rintro e w1 ⟨v1,rfl,k1,f1,b1⟩;have b2:=hb.trans (b1.mono hb.size);have ha1:=ha.bQ b1;have ha1':=ha'.bQ b1;rw [HE.out] at k1;obtain ⟨A3,c3,rfl,_⟩:=id k1;clear ha ha' hb b1;go_wp2_with fail
 refine (qA2 _ _ x G _ ha1 k1 hl hlG HG0.out q HM.out HQ.out).mono ?_;rintro e w2 ⟨v2,rfl,k2,f2,b3⟩;obtain ⟨A4,c4,rfl,_⟩:=id k2;have b4:=b2.trans (b3.mono b2.size);have ha2':=ha1'.bQ b3;clear ha1 ha1' k1 b3 b2;go_wp2_with fail
 refine (mul_any _ _ q y _ k2 ha2' hlq (by omega) Z HZ.out).mono ?_;rintro e w3 ⟨v3,rfl,k3,f3,b5⟩;go_wp2;go_ret;exact ⟨_,rfl,k3,f3.mono b4.size,b4.trans (b5.mono b4.size)⟩
end nat
namespace rat
open Go.RowKit num mem nat txt str flow whl
def zJ8 (qs:List Rat):Nat:=qs.foldl (fun m q=>Nat.lcm m q.den) 1
theorem jL7 (qs:List Rat) (q:Rat):zJ8 (qs ++ [q])=Nat.lcm (zJ8 qs) q.den:=by unfold zJ8;rw [List.foldl_append];rfl
theorem jL8:zJ8 []=1:=rfl
theorem yM5 {qs:List Rat} {k:Nat} {q:Rat} (h:qs[k]?=some q):zJ8 (qs.take (k+1))=Nat.lcm (zJ8 (qs.take k)) q.den:=by rw [bQ9,h];exact jL7 _ _
theorem yM6 (qs:List Rat):0<zJ8 qs:=by
 have key:∀ (l:List Rat) (m:Nat),0<m->0<l.foldl (fun m q=>Nat.lcm m q.den) m:=by
  intro l
  induction l with
  | nil=>exact fun m h=>h
  | cons q l ih=>exact fun m h=>ih _ (Nat.lcm_pos h q.den_pos)
 exact key qs 1 (by omega)
theorem jL9 {qs:List Rat}:∀ q∈qs,q.den∣zJ8 qs:=by
  have key:∀ (l:List Rat) (m:Nat),m∣l.foldl (fun m q=>Nat.lcm m q.den) m /\ ∀ q∈l,q.den∣l.foldl (fun m q=>Nat.lcm m q.den) m:=by
    intro l
    induction l with
    | nil=>exact fun m=>⟨Nat.dvd_refl _,fun q hq=>by simp at hq⟩
    | cons q l ih =>
      intro m;obtain ⟨h1,h2⟩:=ih (Nat.lcm m q.den);refine ⟨Nat.dvd_trans (Nat.dvd_lcm_left m q.den) h1,fun x hx => ?_⟩;rcases List.mem_cons.1 hx with rfl|hx
      · exact Nat.dvd_trans (Nat.dvd_lcm_right m x.den) h1
      · exact h2 x hx
  exact (key qs 1).2
theorem lcm_len {x y m n:Nat} (hx:(digs 4294967296 x).length<=m) (hy:(digs 4294967296 y).length<=n) (h0:0<x) (h1:0<y):(digs 4294967296 (Nat.lcm x y)).length<=m+n:=by
 have h2:Nat.lcm x y<=x*y:=Nat.div_le_self _ _;have h3:=zG7 (B:=4294967296) (by omega) h2;have h4:=zT6 x y;omega
theorem jM {S:Nat}:∀ (qs:List Rat),(∀ q∈qs,zC2 q S) -> ∀ k,(digs 4294967296 (zJ8 (qs.take k))).length<=1+S*k:=by
  intro qs h k
  induction k with
  | zero=>rw [bX6,jL8];exact zB2 (zG5 (k:=1) (by omega) (by decide)) (by omega)
  | succ k ih =>
    cases hq:qs[k]? with
    | none=>rw [bQ9,hq,Nat.mul_succ];simp;omega
    | some q =>
      rw [yM5 hq,Nat.mul_succ];have h2:=lcm_len ih (h q (zA5 hq)).2 (yM6 _) q.den_pos;omega
def zN6 (qs:List Rat):List Int:=qs.map fun q=>q.num*((zJ8 qs / q.den:Nat):Int)
theorem clrL_at {qs:List Rat} {k:Nat} {q:Rat} (h:qs[k]?=some q):(zN6 qs)[k]?=some (q.num*((zJ8 qs / q.den:Nat):Int)):=by unfold zN6;rw [bQ8,h];rfl
theorem qC2 (qs:List Rat):(zN6 qs).length=qs.length:=by unfold zN6;rw [zA9]
theorem yM7 (a0:Value) (qs:List Rat) (S:Nat) (w:World) (h0:SlF .u64 4294967296 w a0 qs) (hc:Hid (qs.length<=100/\S<=100 /\ ∀ q∈qs,zC2 q S)) :
  Calls prog 20 #[a0] w (fun e w' => ∃ g v,e=.returned (.tuple #[.slice (some ⟨g,0,none⟩) qs.length qs.length,v])/\w.heap.size<=g/\zL6 w' g qs.length (zN6 qs)/\IsS w' .u64 v (digs 4294967296 (zJ8 qs))/\Below w.heap.size w w'):=by
 obtain ⟨n,hn⟩:∃ n,n=qs.length:=⟨_,rfl⟩;obtain ⟨A0,c0,rfl,hc0,hm0⟩:=h0.shape;rw [<- hn] at h0 hc0 |-;have hn100:n<=100:=by rw [hn];exact hc.out.1
 have HN:=hQ9 hn;have HS0:=hQ9 h0
 have HLL:Hid (∀ k,k<=n->(digs 4294967296 (zJ8 (qs.take k))).length<=10001):=fun k hk=>by
  have h1:=jM qs hc.out.2.2 k;have h2:S*k<=100*100:=bY6 hc.out.2.1 (by omega);omega
 unfold maxLen at hm0;clear h0 hn
 go_enter func20,ntmps20;go_wp2_with fail
 refine (qD5 _ 1 _ rfl (by omega)).mono ?_;rintro e w1 ⟨v1,rfl,k1,-,b1⟩;have k10:IsS w1 .u64 v1 (digs 4294967296 (zJ8 (qs.take 0))):=by rw [bX6];exact k1
 have HB1:=hQ9 b1;clear k1 b1;go_wp2
 go_loopw [4,13] (fun v4 v13 wr => ∃ k:Nat,k<=n/\IsS wr .u64 v4 (digs 4294967296 (zJ8 (qs.take k)))/\Hid (Below w.heap.size w wr)/\v13=.int .i64 (k:Int)) (fun _ v13 _=>n-(intOf v13).toNat)
 case atStart=>exact ⟨0,by omega,k10,HB1,rfl⟩
 case round =>
  clear k10 HB1;obtain ⟨k,hk,km,HB,rfl⟩:=hrel;obtain ⟨wo,hwo⟩:∃ wo,wo=wr:=⟨_,rfl⟩;subst hwo;obtain ⟨Am,cm,rfl,_⟩:=id km;by_cases hlt:k<n
  ·obtain ⟨q,hq⟩:∃ q,qs[k]?=some q:=⟨_,zA3 (by rw [<- HN.out];exact hlt)⟩;obtain ⟨g,o,u,t,rfl,hkn,p0,p1,p2,su,st⟩:=(HS0.out.bQ HB.out).at_ hq;obtain ⟨At,ct,rfl,_⟩:=id st;have hix:=fun w=>zG6 (P:=prog) underlying44 (by kernel_rfl) (g:=g) (o:=o) (c:=c0) hkn w;have hlq:=(hc.out.2.2 q (zA5 hq)).2;have hS:=hc.out.2.1;have hl1:(digs 4294967296 (zJ8 (qs.take k))).length<=90000:=by have:=HLL.out k (by omega);omega
   obtain ⟨M,hM⟩:∃ M,M=zJ8 (qs.take k):=⟨_,rfl⟩;obtain ⟨M2,hM2⟩:∃ M2,M2=Nat.lcm M q.den:=⟨_,rfl⟩;have HM2:Hid (zJ8 (qs.take (k+1))=M2):=by show _=_;rw [yM5 hq,hM2,hM]
   have hMp:0<M:=by rw [hM];exact yM6 _
   rw [<- hM] at km hl1 |-;have CL:∀ w v u,IsS w .u64 v (digs 4294967296 M)->IsS w .u64 u (digs 4294967296 q.den)->Calls prog 54 #[v,u] w (zD1 .u64 (digs 4294967296 M2) w):=fun w v u h1 h2=>by rw [hM2];exact jL6 v u M q.den w h1 h2 hl1 (by omega) hMp
   clear hq hM hM2 hlq hl1 hMp;go_wp2_with fail
   refine (CL _ _ _ km st).mono ?_;rintro e w2 ⟨v2,rfl,k2,-,b2⟩;have k3:IsS w2 .u64 v2 (digs 4294967296 (zJ8 (qs.take (k+1)))):=by rw [HM2.out];exact k2
   have HB2:Hid (Below w.heap.size w w2):=HB.out.trans (b2.mono HB.out.size);clear k2 b2 km st su p0 p1 p2 CL HB hix;go_wp2;go_roundw;case rel=>exact ⟨k+1,by omega,k3,HB2,by go_num⟩
   case measure=>simp [intOf];omega
  ·have km2:IsS wo .u64 (.slice Am (digs 4294967296 (zJ8 (qs.take k))).length cm) (digs 4294967296 (zJ8 qs)):=by
    have h:=km;rw [show qs.take k=qs from zA7 (by have:=HN.out;omega)] at h |-;exact h
   obtain ⟨lm,hlm⟩:∃ lm,lm=(digs 4294967296 (zJ8 (qs.take k))).length:=⟨_,rfl⟩;rw [<- hlm] at km2 |-;obtain ⟨M,hM⟩:∃ M,M=zJ8 qs:=⟨_,rfl⟩;rw [<- hM] at km2;have HM:=hQ9 hM
   have hlM:(digs 4294967296 M).length<=10001:=by
    have h:=HLL.out n (zB1 n);rw [show qs.take n=qs from zA7 (by have:=HN.out;omega)] at h;rw [hM];exact h
   obtain ⟨mk,hmk⟩:=Classical.axiomOfChoice (fun w=>jH9 (P:=prog) (w:=w) underlying48 whl.info_int n (by omega));have hmk1:=fun w=>(hmk w).1;have HMK:=hQ9 (fun w=>(hmk w).2);clear hmk hM hlm km;obtain ⟨ri,bm⟩:=HMK.out wo;have RI0:zL6 (mk wo) wo.heap.size n ((zN6 qs).take 0):=by rw [bX6];exact ri
   have HKM:=hQ9 km2;have HBo:=hQ9 HB.out;have HB0:Hid (Below wo.heap.size wo (mk wo)):=bm;have hwo2:=HB.out.size;clear ri bm km2 HB;go_wp2
   go_loopw [29] (fun v29 wr => ∃ k:Nat,k<=n/\zL6 wr wo.heap.size n ((zN6 qs).take k)/\Hid (Below wo.heap.size wo wr)/\v29=.int .i64 (k:Int)) (fun v29 _=>n-(intOf v29).toNat)
   case atStart=>exact ⟨0,by omega,RI0,HB0,rfl⟩
   case round =>
    clear RI0 HB0;obtain ⟨k,hk,RI,HBi,rfl⟩:=hrel;obtain ⟨wi,hwi⟩:∃ wi,wi=wr:=⟨_,rfl⟩;subst hwi;have HBx:Hid (Below w.heap.size w wi):=HBo.out.trans (HBi.out.mono hwo2);by_cases hlt:k<n
    ·obtain ⟨q,hq⟩:∃ q,qs[k]?=some q:=⟨_,zA3 (by rw [<- HN.out];exact hlt)⟩;obtain ⟨g,o,u,t,rfl,hkn,p0,p1,p2,su,st⟩:=(HS0.out.bQ HBx.out).at_ hq;obtain ⟨Au,cu,rfl,_⟩:=id su;obtain ⟨At,ct,rfl,_⟩:=id st;have hix:=fun w=>zG6 (P:=prog) underlying44 (by kernel_rfl) (g:=g) (o:=o) (c:=c0) hkn w;have hq2:=hc.out.2.2 q (zA5 hq);have hS:=hc.out.2.1;have hdv:=jL9 q (zA5 hq);obtain ⟨t2,ht2⟩:∃ t2,t2=M / q.den:=⟨_,rfl⟩;have hm0':M % q.den=0:=by rw [HM.out];exact Nat.mod_eq_zero_of_dvd hdv
     have hlt2:(digs 4294967296 t2).length<=10001:=by rw [ht2];exact zB2 (zG7 (by omega) (Nat.div_le_self _ _)) hlM
     have HDP:Hid (0<q.den):=q.den_pos;have HMD:=hQ9 hm0';have HT2:=hQ9 ht2;obtain ⟨Z,hZ⟩:∃ Z,Z=q.num*(t2:Int):=⟨_,rfl⟩
     have HZ:Hid ((zN6 qs).take (k+1)=(zN6 qs).take k ++ [Z]):=by
      show _=_
      rw [bQ9,clrL_at hq,hZ,ht2,HM.out];rfl
     have hl0:zC5 q.num<=100:=zB2 hq2.1 hS;have hl1:(digs 4294967296 q.den).length<=90000:=by have:=hq2.2;omega
     have hl2:zC5 ((t2:Nat):Int)<=100000:=by unfold zC5;rw [Int.natAbs_natCast];omega
     have km:=HKM.out.bQ HBi.out;clear hq hq2 hdv hm0' ht2;go_wp2_with fail
     refine (qA2 _ _ M q.den _ km st (by omega) hl1 HDP.out t2 HMD.out HT2.out).mono ?_;rintro e w3 ⟨v3,rfl,k3,-,b3⟩;obtain ⟨A3,c3,rfl,_⟩:=id k3;have CMd:∀ w v,IsS w .u64 v (digs 4294967296 t2)->Calls prog 57 #[.bool false,v] w (zF6 ((t2:Nat):Int) w):=fun w v h=>whl.made_any false v t2 _ w h (by omega) rfl;obtain ⟨T2,hT2⟩:∃ T2:Int,T2=((t2:Nat):Int):=⟨_,rfl⟩;rw [<- hT2] at CMd hl2 hZ;have CMl:∀ w a b,IsZ w a q.num->IsZ w b T2->Calls prog 56 #[a,b] w (zF6 Z w):=fun w a b h1 h2=>qF1 a b q.num T2 Z w h1 h2 (by omega) hl2 hZ;have b3d:=b3.trans ((Below.refl w3.heap.size w3).drew.mono b3.size);have RId:=RI.bQ b3d;have kx:IsZ w3.drew (.agg #[.bool (ngB q.num),.slice Au (digs 4294967296 q.num.natAbs).length cu]) q.num:=⟨_,rfl,su.bQ b3d⟩;have k3d:=k3.bQ (Below.refl _ w3).drew;have x0:=(b3d.cell (bQ0 wi _ p0)).trans p0;have x1:=(b3d.cell (bQ0 wi _ p1)).trans p1;have HBd:Hid (Below wo.heap.size wo w3.drew):=HBi.out.trans (b3d.mono HBi.out.size);have hrl:((zN6 qs).take k).length=k:=by rw [bQ7,qC2,<- HN.out];omega
     have HRL:=hQ9 hrl;have hixI:=fun w=>indexI (P:=prog) underlying48 (by kernel_rfl) (g:=wo.heap.size) (c:=n) hlt w;have hszd:=HBd.out.size;clear hT2 hl0 hl1 hl2 hlt2 hZ km st su p0 p1 p2 RI b3 k3 hrl HBi;go_upto_region 12 with (fail)
     go_region_law (first | (go_simp;go_at_call 57;refine (CMd _ _ (by exact k3d)).mono ?_;rintro e w4 ⟨v4,rfl,k4,-,b4⟩;obtain ⟨u4,rfl,s4⟩:=k4;obtain ⟨A4,c4,rfl,_⟩:=id s4;have x04:=(b4.cell (bQ0 w3.drew _ x0)).trans x0;have x14:=(b4.cell (bQ0 w3.drew _ x1)).trans x1;have kx4:=kx.bQ b4)|(go_simp;go_at_call 56;refine (CMl _ _ _ (by exact kx4) ⟨_,rfl,(by exact s4)⟩).mono ?_;rintro e w5 ⟨v5,rfl,k5,-,b5⟩;obtain ⟨u5,rfl,s5⟩:=k5;obtain ⟨A5,c5,rfl,_⟩:=id s5;have RI5:=(RId.bQ b4).bQ b5;obtain ⟨X8,Y8,P0,P1,Q0,Q1⟩:=RI5.places hlt;rw [bY5] at P0 P1 Q0 Q1))
     all_goals
      obtain ⟨G8,R8⟩:=RI5.set2 (z:=Z) (by rw [HRL.out];exact hlt) s5;rw [HRL.out,bY5] at G8 R8;rw [<- HZ.out] at R8;have HB8:=hQ9 (((HBd.out.trans (b4.mono hszd)).trans (b5.mono (zB2 hszd b4.size))).grown G8 (zB2 (zB2 hszd b4.size) b5.size) (fun g e=>by injection e with e;omega));clear RId RI5 G8 kx kx4 k3d x0 x1 x04 x14 s4 s5 P0 P1 Q0 Q1 CMd CMl b4 b5 HBd hix hixI;go_wp2;go_roundw;case rel=>exact ⟨k+1,by omega,R8,HB8,by go_num⟩
      case measure=>simp [intOf];omega
    ·have HR:Hid (zL6 wi wo.heap.size n (zN6 qs)):=by
      have h:=RI;rw [zA7 (by rw [qC2,<- HN.out];omega)] at h;exact h
     have HKf:Hid (IsS wi .u64 (.slice Am lm cm) (digs 4294967296 M)):=HKM.out.bQ HBi.out;clear RI;go_wp2;go_ret2;exact ⟨_,_,rfl,hwo2,HR.out,by rw [<- HM.out];exact HKf.out,HBx.out⟩
theorem qW9 (a0 a1:Value) (T U:List (List Rat)) (b:Bool) (w:World) (h0:SlT .u64 4294967296 w a0 T) (h1:SlT .u64 4294967296 w a1 U) (hb:b=true ↔ zF5 T/\zF5 U/\T.length=U.length) :
  Calls prog 46 #[a0,a1] w (zD3 (.bool b) w):=by
 have st0:=h0;have st1:=h1;obtain ⟨A0,c0,rfl,hc0,hm0⟩:=h0.shape;obtain ⟨A1,c1,rfl,hc1,hm1⟩:=h1.shape;unfold maxLen at hm0 hm1;have HB:=hQ9 hb;clear hb h0 h1
 go_enter func46,ntmps46
 by_cases hT:zF5 T
 ·have CT:=zW8 _ T 0 _ st0 (by rw [if_pos hT]);have HT:=hQ9 hT;clear hT
  go_wp2_with fail
  refine CT.mono ?_;rintro e w1 ⟨rfl,b1⟩;have st2:=st1.bQ b1;by_cases hU:zF5 U
  ·have CU:=zW8 _ U 0 _ st2 (by rw [if_pos hU]);have HU:=hQ9 hU;clear hU
   go_wp2_with fail
   refine CU.mono ?_;rintro e w2 ⟨rfl,b2⟩;have bb:=b1.trans (b2.mono b1.size)
   have hv:(((T.length:Nat):Int) == ((U.length:Nat):Int))=b:=by
    rw [Bool.eq_iff_iff,beq_iff_eq,HB.out];exact ⟨fun h=>⟨HT.out,HU.out,by omega⟩,fun h=>by have:=h.2.2;omega⟩
   go_wp2;go_ret;exact ⟨rfl,bb⟩
  ·have CU:=zW8 _ U 8 _ st2 (by rw [if_neg hU]);have hv:b=false:=Bool.eq_false_iff.2 fun h=>hU (HB.out.1 h).2.1;subst hv;clear hU
   go_wp2_with fail
   refine CU.mono ?_;rintro e w2 ⟨rfl,b2⟩;have bb:=b1.trans (b2.mono b1.size);go_wp2;go_ret;exact ⟨rfl,bb⟩
 ·have CT:=zW8 _ T 8 _ st0 (by rw [if_neg hT]);have hv:b=false:=Bool.eq_false_iff.2 fun h=>hT (HB.out.1 h).1;subst hv;clear hT
  go_wp2_with fail
  refine CT.mono ?_;rintro e w1 ⟨rfl,b1⟩;go_wp2;go_ret;exact ⟨rfl,b1⟩
theorem qX (a0 a1:Value) (T U:List (List Rat)) (b:Bool) (w:World) (h0:SlT .u64 4294967296 w a0 T) (h1:SlT .u64 4294967296 w a1 U) (hb:b=true ↔ T.length=zC T/\zF5 T/\zF5 U/\T.length=U.length) :
  Calls prog 31 #[a0,a1] w (zD3 (.bool b) w):=by
 have st0:=h0;have st1:=h1;obtain ⟨A0,c0,rfl,hc0,hm0⟩:=h0.shape;obtain ⟨A1,c1,rfl,hc1,hm1⟩:=h1.shape;unfold maxLen at hm0 hm1;have HB:=hQ9 hb;clear hb h0 h1
 go_enter func31,ntmps31;go_wp2_with fail
 refine (zS9 _ T _ st0).mono ?_;rintro e w1 ⟨rfl,b1⟩;obtain ⟨C,hC⟩:∃ C,C=zC T:=⟨_,rfl⟩;have HC:=hQ9 hC;rw [<- hC];clear hC;by_cases he:T.length=C
 ·have hv:(((T.length:Nat):Int) == ((C:Nat):Int))=true:=by rw [beq_iff_eq];omega
  have CP:=qW9 _ _ T U b _ (st0.bQ b1) (st1.bQ b1) (by rw [HB.out];exact ⟨fun h=>h.2,fun h=>⟨by rw [<- HC.out];exact he,h⟩⟩);clear he;go_wp2_with fail
  refine CP.mono ?_;rintro e w2 ⟨rfl,b2⟩;have bb:=b1.trans (b2.mono b1.size);go_wp2;go_ret;exact ⟨rfl,bb⟩
 ·have hv:(((T.length:Nat):Int) == ((C:Nat):Int))=false:=by rw [Bool.eq_false_iff];intro h;rw [beq_iff_eq] at h;omega
  have hb:b=false:=Bool.eq_false_iff.2 fun h=>he (by rw [HC.out];exact (HB.out.1 h).1);subst hb;clear he;go_wp2;go_ret;exact ⟨rfl,b1⟩
end rat
namespace rat
open Go.RowKit Go.Shelf num mem nat txt str flow whl
def okq (A B:List (List Rat)):Prop:=A.length=zC A/\zF5 A/\zF5 B/\A.length=B.length
theorem okq.sa {A B:List (List Rat)} (h:okq A B):shp A A.length A.length:=⟨rfl,fun r hr=>by rw [h.2.1.2.2 r hr];exact h.1.symm⟩
theorem okq.sb {A B:List (List Rat)} (h:okq A B):shp B A.length (zC B):=⟨h.2.2.2.symm,fun r hr=>h.2.2.1.2.2 r hr⟩
theorem okq.wj {A B:List (List Rat)} (h:okq A B):zC (zD4 A B)=A.length+zC B\/A.length=0:=by
 by_cases h0:A.length=0
 ·exact .inr h0
 ·exact .inl (qI3 (zX3 h.sa h.sb) (fun e=>absurd e h0))
theorem okq.wj_le {A B:List (List Rat)} (h:okq A B):zC (zD4 A B)<=A.length+zC B:=by
 rcases h.wj with e | e
 ·omega
 ·have h1:=zX3 h.sa h.sb;have h2:zD4 A B=[]:=List.length_eq_zero_iff.1 (by rw [h1.1,e]);rw [h2];exact Nat.zero_le _
theorem okq.may {A B:List (List Rat)} (h:okq A B) (hw:A.length+zC B<=200):zF5 (zD4 A B):=by
 have h1:=zX3 h.sa h.sb;refine ⟨by rw [h1.1];have:=h.2.1.1;omega,zB2 h.wj_le hw,fun r hr => ?_⟩;rcases h.wj with e | e
 ·rw [e];exact h1.2 r hr
 ·have h2:zD4 A B=[]:=List.length_eq_zero_iff.1 (by rw [h1.1,e]);rw [h2] at hr;cases hr
theorem jM0 (A B:List (List Rat)):zO4 A.length [A,B]=zD4 A B:=by
 show zD4 (zD4 (zB A.length []) A) B=zD4 A B
 rw [qT9]
theorem okq.stp {A B:List (List Rat)} {S:Nat} (h:okq A B) (ok:zX1 (zD4 A B) S):StpIn A B A.length (zC B) S:=⟨rfl,h.sa,h.sb,rfl,h.wj,ok⟩
def yM8 (A B:List (List Rat)) (L:Nat) (w:World) (e:Ending) (w':World):Prop:=(okq A B/\yM4 A B L w e w')\/(¬ okq A B/\e=.returned (.tuple #[.slice none 0 0,.int .i64 8])/\Below w.heap.size w w')
theorem yM9 {w:World} {a0 a1:Value} {A B:List (List Rat)} (T:TypeId) (h0:SlT .u64 4294967296 w a0 A) (h1:SlT .u64 4294967296 w a1 B):zK9 (w.alloc (.cells #[a0,a1] T)) (.slice (some ⟨w.heap.size,0,none⟩) 2 2) [A,B]:=by
 have hb:=zC6 (w:=w) (zB1 _) (.cells #[a0,a1] T);refine ⟨[a0,a1],rfl,zS4 w T [a0,a1],by simp,fun i u t hu ht => ?_⟩;rcases i with _ | _ | i
 ·obtain rfl:a0=u:=by simpa using hu
  obtain rfl:A=t:=by simpa using ht
  exact h0.bQ hb
 ·obtain rfl:a1=u:=by simpa using hu
  obtain rfl:B=t:=by simpa using ht
  exact h1.bQ hb
 ·simp at hu
structure SolIn (A B:List (List Rat)) (S:Nat):Prop where
 len:A.length<=200
 wide:zC A+zC B<=200
 la:zE0 A 100000
 lb:zE0 B 100000
 ok:okq A B->zX1 (zD4 A B) S
theorem jM1 (a0 a1:Value) (A B:List (List Rat)) (S:Nat) (w:World) (h0:SlT .u64 4294967296 w a0 A) (h1:SlT .u64 4294967296 w a1 B) (hc:Hid (SolIn A B S)) :
  Calls prog 8 #[a0,a1] w (yM8 A B 2450 w):=by
 have st0:=h0;have st1:=h1;obtain ⟨A0,c0,rfl,hc0,hm0⟩:=h0.shape;obtain ⟨A1,c1,rfl,hc1,hm1⟩:=h1.shape;unfold maxLen at hm0 hm1;have HS0:=hQ9 st0;have HS1:=hQ9 st1;clear h0 h1 st0 st1
 go_enter func8,ntmps8
 by_cases ho:okq A B
 ·have CF:=qX _ _ A B true _ HS0.out HS1.out ⟨fun _=>ho,fun _=>rfl⟩;have HO:=hQ9 ho;clear ho
  go_wp2_with fail
  refine CF.mono ?_;rintro e w1 ⟨rfl,b1⟩;have k0:=HS0.out.bQ b1;have k1:=HS1.out.bQ b1;obtain ⟨w2,hw2⟩:∃ w2,w2=w1.alloc (.cells #[.slice A0 A.length c0,.slice A1 B.length c1] 22):=⟨_,rfl⟩;have hL:=yM9 22 k0 k1;have hb2:=zC6 (w:=w1) (zB1 _) (.cells #[.slice A0 A.length c0,.slice A1 B.length c1] 22);have hsz2:w1.heap.size=w1.heap.size:=rfl;rw [<- hw2] at hL hb2;have HB2:Hid (Below w.heap.size w w2):=b1.trans (hb2.mono b1.size);have HL:=hQ9 hL;clear hL hb2 k0 k1;go_wp2_with fail
  rw [<- hw2];clear hw2 b1
  refine (jG3 _ [A,B] A _ HL.out rfl ⟨by simp,by simpa using hc.out.wide,fun t ht=>by
   rcases List.mem_cons.1 ht with rfl|ht
   ·exact hc.out.la
   ·rw [List.mem_singleton.1 ht];exact hc.out.lb,hc.out.len⟩).mono ?_
  rintro e w3 (⟨-,V,rfl,hV,b3⟩|⟨hn,_⟩)
  ·rw [if_pos rfl,jM0] at hV;have HB3:Hid (Below w.heap.size w w3):=HB2.out.trans (b3.mono HB2.out.size);obtain ⟨AV,cV,rfl,-,-⟩:=id hV.shape;have HW:Hid (zF5 (zD4 A B)):=HO.out.may (by have:=hc.out.wide;have:=HO.out.1;omega);have CB:=fun w (h:SlT .u64 4294967296 w (.slice AV (zD4 A B).length cV) (zD4 A B))=>jL5 _ A B A.length (zC B) S w h HW.out (HO.out.stp (hc.out.ok HO.out));clear b3
   go_wp2_with fail
   refine (CB _ hV).mono ?_;rintro e w4 ⟨b4,(⟨h5,V4,X,rfl,hX⟩|⟨h5,rfl⟩)⟩
   ·have HF:=hQ9 (zA h5 hX);have HB4:Hid (Below w.heap.size w w4):=HB3.out.trans (b4.mono HB3.out.size);clear h5 hX b4 hV;go_wp2;go_ret2;exact .inl ⟨HO.out,HB4.out,.inl ⟨HF.out.1,_,X,rfl,HF.out.2⟩⟩
   ·have HF:=hQ9 h5;have HB4:Hid (Below w.heap.size w w4):=HB3.out.trans (b4.mono HB3.out.size);clear h5 b4 hV;go_wp2;go_ret2;exact .inl ⟨HO.out,HB4.out,.inr ⟨HF.out,rfl⟩⟩
  ·exact absurd (fun t ht=>by
    rcases List.mem_cons.1 ht with rfl|ht
    ·exact ⟨HO.out.2.1,rfl⟩
    ·rw [List.mem_singleton.1 ht];exact ⟨HO.out.2.2.1,HO.out.2.2.2.symm⟩) hn
 ·have CF:=qX _ _ A B false _ HS0.out HS1.out ⟨fun h=>Bool.noConfusion h,fun h=>absurd h ho⟩;have HO:=hQ9 ho;clear ho
  go_wp2_with fail
  refine CF.mono ?_;rintro e w1 ⟨rfl,b1⟩;go_wp2;go_ret2;exact .inr ⟨HO.out,rfl,b1⟩
end rat
namespace rat
open Go.RowKit num mem nat txt str flow whl
def zX4 (C g:Nat):Value:=.slice (some ⟨g,0,none⟩) C C
def zR (C n:Nat) (gs:List Nat):List Value:=gs.map (zX4 C) ++ zB n (.slice none 0 0)
theorem yN (C n:Nat) (gs:List Nat):(zR C n gs).length=gs.length+n:=by simp [zR]
theorem jM2 {C n i g:Nat} {gs:List Nat} (h:gs[i]?=some g):(zR C n gs)[i]?=some (zX4 C g):=by
 unfold zR;rw [zB0 (by rw [zA9];exact (zA4.1 h).1),bQ8,h];rfl
theorem jM3 (C n:Nat) (gs:List Nat) (g:Nat):(zR C (n+1) gs).set gs.length (zX4 C g)=zR C n (gs ++ [g]):=by
 unfold zR;rw [List.set_append_right _ _ (by rw [zA9];exact zB1 _),zA9,Nat.sub_self,List.replicate_succ,zA2,bX5];simp
structure TabZ (w:World) (gT C base n:Nat) (gs:List Nat) (T:List (List Rat)):Prop where
 blk:zG1 w gT 44 (zR C n gs)
 len:gs.length=T.length
 row:∀ (i g:Nat) (r:List Rat),gs[i]?=some g->T[i]?=some r->r.length=C/\zD2 w g C r/\base<=g
 apart:∀ (i j g:Nat),gs[i]?=some g->gs[j]?=some g->i=j
theorem TabZ.bQ {w w':World} {gT C base n:Nat} {gs:List Nat} {T:List (List Rat)} (h:TabZ w gT C base n gs T) (hb:Below w.heap.size w w'):TabZ w' gT C base n gs T :=
 ⟨h.blk.bQ hb,h.len,fun i g r h1 h2=>⟨(h.row i g r h1 h2).1,(h.row i g r h1 h2).2.1.bQ hb,(h.row i g r h1 h2).2.2⟩,h.apart⟩
theorem zD2.notTab {w:World} {g n gT:Nat} {qs:List Rat} {us:List Value} (h:zD2 w g n qs) (ht:zG1 w gT 44 us):g≠gT:=fun e=>by
 obtain ⟨ps,_,_,h3,_⟩:=h;have h4:=ht.1;unfold Blk at h3 h4;rw [e,h4] at h3;injection h3 with h3;injection h3 with _ h3;exact absurd h3 (by decide)
theorem zD2.offT {w w':World} {g n gT:Nat} {qs:List Rat} {us:List Value} (h:zD2 w g n qs) (ht:zG1 w gT 44 us) (hg:w.grownBy w' (some gT)):zD2 w' g n qs :=
 h.offb ht.1 (fun c hc n e=>by
  obtain ⟨A,m,d,e1⟩:=ht.2 c (List.mem_toArray.1 hc);rw [e1] at e;cases e) hg (h.notTab ht)
theorem TabZ.rowAt {w:World} {gT C base n i:Nat} {gs:List Nat} {T:List (List Rat)} {r:List Rat} (h:TabZ w gT C base n gs T) (hr:T[i]?=some r):∃ g,gs[i]?=some g/\r.length=C/\zD2 w g C r/\base<=g:=by
 have h1:gs[i]?=some (gs[i]'(by rw [h.len];exact (zA4.1 hr).1)):=zA3 _;exact ⟨_,h1,h.row i _ r h1 hr⟩
theorem TabZ.slT {w:World} {gT C base R:Nat} {gs:List Nat} {T:List (List Rat)} (h:TabZ w gT C base 0 gs T) (hR:T.length=R) (hm:R<=1000000000) (hc:C<=1000000000):SlT .u64 4294967296 w (.slice (some ⟨gT,0,none⟩) R R) T:=by
 have hT:zD7 .u64 4294967296 w gT 44 (zR C 0 gs) T:=⟨h.blk,by rw [yN,h.len];rfl,fun i u r hu hr=>by
  obtain ⟨g,h1,h2,h3,_⟩:=h.rowAt hr;rw [jM2 h1] at hu;injection hu with hu;subst hu;exact h3.sl h2 hc⟩
 exact hT.slT hR hm
structure TabP (w:World) (gT C base n:Nat) (gs:List Nat) (T:List (List Rat)) (g:Nat) (r:List Rat):Prop where
 blk:zG1 w gT 44 (zR C n (gs ++ [g]))
 len:gs.length=T.length
 row:∀ (i g:Nat) (r:List Rat),gs[i]?=some g->T[i]?=some r->r.length=C/\zD2 w g C r/\base<=g
 apart:∀ (i j g':Nat),(gs ++ [g])[i]?=some g'->(gs ++ [g])[j]?=some g'->i=j
 cur:zD2 w g C r
 low:base<=g
theorem TabP.bQ {w w':World} {gT C base n g:Nat} {gs:List Nat} {T:List (List Rat)} {r:List Rat} (h:TabP w gT C base n gs T g r) (hb:Below w.heap.size w w'):TabP w' gT C base n gs T g r :=
 ⟨h.blk.bQ hb,h.len,fun i g r h1 h2=>⟨(h.row i g r h1 h2).1,(h.row i g r h1 h2).2.1.bQ hb,(h.row i g r h1 h2).2.2⟩,h.apart,h.cur.bQ hb,h.low⟩
theorem TabP.drew {w:World} {gT C base n g:Nat} {gs:List Nat} {T:List (List Rat)} {r:List Rat} (h:TabP w gT C base n gs T g r):TabP w.drew gT C base n gs T g r:=h.bQ (Below.refl _ w).drew
theorem TabP.start {w:World} {gT C base n g:Nat} {gs:List Nat} {T:List (List Rat)} (h:TabZ w gT C base (n+1) gs T) (hr:zD2 w g C []) (hb:base<=g) (hn:∀ i:Nat,gs[i]? ≠ some g):TabP (w.setCell ⟨gT,gs.length,none⟩ (zX4 C g)) gT C base n gs T g []:=by
 have hg:=zE9 w gT gs.length (zX4 C g);refine ⟨?_,h.len,fun i g' r' h1 h2 => ?_,fun i j g' h1 h2 => ?_,hr.offT h.blk hg,hb⟩
 ·rw [<- jM3];exact h.blk.put (heap_setCell h.blk.1) ⟨_,_,_,rfl⟩
 ·obtain ⟨k1,k2,k3⟩:=h.row i g' r' h1 h2;exact ⟨k1,k2.offT h.blk hg,k3⟩
 ·have key:∀ i,(gs ++ [g])[i]?=some g'->(i<gs.length/\gs[i]?=some g')\/(i=gs.length/\g=g'):=fun i h1=>by
   by_cases hi:i<gs.length
   ·rw [zB0 hi] at h1;exact .inl ⟨hi,h1⟩
   ·have hi2:=(zA4.1 h1).1;rw [zA8,List.length_singleton] at hi2;obtain rfl:i=gs.length:=by omega
    rw [List.getElem?_concat_length] at h1;injection h1 with h1;exact .inr ⟨rfl,h1⟩
  rcases key i h1 with ⟨_,k1⟩|⟨e1,k1⟩<;>rcases key j h2 with ⟨_,k2⟩|⟨e2,k2⟩
  ·exact h.apart i j g' k1 k2
  ·rw [<- k2] at k1;exact absurd k1 (hn i)
  ·rw [<- k1] at k2;exact absurd k2 (hn j)
  ·omega
theorem TabP.ne {w:World} {gT C base n g:Nat} {gs:List Nat} {T:List (List Rat)} {r:List Rat} (h:TabP w gT C base n gs T g r) {i g':Nat} (hi:gs[i]?=some g'):g'≠g:=fun e=>by
 have h1:=(zA4.1 hi).1;have h2:=h.apart i gs.length g (by rw [zB0 h1,hi,e]) (List.getElem?_concat_length);omega
theorem TabP.set {w w':World} {gT C base n g:Nat} {gs:List Nat} {T:List (List Rat)} {r r':List Rat} (h:TabP w gT C base n gs T g r) (hg:w.grownBy w' (some g)) (hr:zD2 w' g C r'):TabP w' gT C base n gs T g r' :=
 ⟨h.blk.grown hg (fun e => h.cur.notTab h.blk (by injection e)), h.len, fun i g' r0 h1 h2 => by
  obtain ⟨k1,k2,k3⟩:=h.row i g' r0 h1 h2;exact ⟨k1,k2.away h.cur hg (h.ne h1),k3⟩,h.apart,hr,h.low⟩
theorem TabP.done {w:World} {gT C base n g:Nat} {gs:List Nat} {T:List (List Rat)} {r:List Rat} (h:TabP w gT C base n gs T g r) (hl:r.length=C):TabZ w gT C base n (gs ++ [g]) (T ++ [r]):=by
 refine ⟨h.blk,by rw [zA8,zA8,h.len];rfl,fun i g' r' h1 h2 => ?_,h.apart⟩;by_cases hi:i<gs.length
 ·rw [zB0 hi] at h1;rw [zB0 (by rw [<- h.len];exact hi)] at h2;exact h.row i g' r' h1 h2
 ·have hi2:=(zA4.1 h1).1;rw [zA8,List.length_singleton] at hi2;obtain rfl:i=gs.length:=by omega
  rw [List.getElem?_concat_length] at h1;rw [h.len,List.getElem?_concat_length] at h2;injection h1 with h1;injection h2 with h2;subst h1;subst h2;exact ⟨hl,h.cur,h.low⟩
theorem TabP.cellAt {w:World} {gT C base n g:Nat} {gs:List Nat} {T:List (List Rat)} {r:List Rat} (h:TabP w gT C base n gs T g r):w.cell? ⟨gT,gs.length,none⟩=some (zX4 C g):=by
 rw [h.blk.1.cell];unfold zR;simp
def zN7 (d:Int) (r:List Int):List Rat:=r.map fun z=>Rat.divInt z d
def zN8 (d:Int) (T:List (List Int)):List (List Rat):=T.map (zN7 d)
theorem qX0 (d:Int) (r:List Int):(zN7 d r).length=r.length:=by unfold zN7;rw [zA9]
theorem qX1 (d:Int) (T:List (List Int)):(zN8 d T).length=T.length:=by unfold zN8;rw [zA9]
theorem jM4 {d:Int} {r:List Int} {k:Nat} {z:Int} (h:r[k]?=some z):(zN7 d r).take (k+1)=(zN7 d r).take k ++ [Rat.divInt z d]:=by
 rw [bQ9,zN7,bQ8,h];rfl
theorem jM5 {d:Int} {T:List (List Int)} {k:Nat} {r:List Int} (h:T[k]?=some r):(zN8 d T).take (k+1)=(zN8 d T).take k ++ [zN7 d r]:=by
 rw [bQ9,zN8,bQ8,h];rfl
def RetOv (T:List (List Rat)) (w:World) (e:Ending) (w':World):Prop:=∃ v,e=.returned v/\SlT .u64 4294967296 w' v T/\Below w.heap.size w w'
theorem jM6 (a0 a1:Value) (T:List (List Int)) (d:Int) (n m:Nat) (w:World) (h0:SlW .u64 4294967296 w a0 T) (h1:IsZ w a1 d) (hd:d≠0) (hc:Hid (T.length=n/\(∀ r∈T,r.length=m)/\n<=200/\m<=200/\zC5 d<=1000 /\ ∀ r∈T,∀ z∈r,zC5 z<=1000)) :
  Calls prog 37 #[a0,a1] w (RetOv (zN8 d T) w):=by
 have HS0:=hQ9 h0;obtain ⟨A0,c0,rfl,hc0,hm0⟩:=h0.shape;rw [hc.out.1] at HS0 hc0 |-;obtain ⟨u1,rfl,s1⟩:=h1;obtain ⟨A1,c1,rfl,_⟩:=id s1;unfold maxLen at hm0;have hn:=hc.out.2.2.1;have HD:=hQ9 hd;clear h0 hd
 go_enter func37,ntmps37
 go_upto_region 1 with (fail)
 obtain ⟨wx,hwx,bb,B1,hsz⟩:=zK4 w 60 #[.bool (ngB d),.slice A1 (digs 4294967296 d.natAbs).length c1];rw [hwx];clear hwx;have HX:=hQ9 bb;have HB1:=hQ9 B1;have HS1:=hQ9 (s1.bQ bb);have HSX:Hid (SlW .u64 4294967296 wx (.slice A0 n c0) T):=HS0.out.bQ bb;clear bb B1 s1 HS0;obtain ⟨mk,hmk⟩:=Classical.axiomOfChoice (fun w=>qH2 (P:=prog) (w:=w) underlying22 qH6 n (by omega));have hmk1:=fun w=>(hmk w).1;have HMK:=hQ9 (fun w=>(hmk w).2);clear hmk;obtain ⟨tb,bm⟩:=HMK.out wx;have hgx:wx.heap.size<(mk wx).heap.size:=tb.lt
 have TZ0:TabZ (mk wx) wx.heap.size m wx.heap.size (n-0) [] ((zN8 d T).take 0):=by
  rw [bX6];exact ⟨tb,rfl,fun i g r h=>by simp at h,fun i j g h=>by simp at h⟩
 have HB0:Hid (Below wx.heap.size wx (mk wx)):=bm;clear tb bm HMK;go_wp2
 go_loopw [13] (fun v13 wr => ∃ (k:Nat) (gs:List Nat),k<=n/\TabZ wr wx.heap.size m wx.heap.size (n-k) gs ((zN8 d T).take k)/\Hid (Below wx.heap.size wx wr)/\v13=.int .i64 (k:Int)) (fun v13 _=>n-(intOf v13).toNat)
 case atStart=>exact ⟨0,[],by omega,TZ0,HB0,rfl⟩
 case round =>
  clear TZ0 HB0 hmk1;obtain ⟨k,gs,hk,TZ,HB,rfl⟩:=hrel;obtain ⟨wo,hwo⟩:∃ wo,wo=wr:=⟨_,rfl⟩;subst hwo;by_cases hlt:k<n
  ·obtain ⟨r,hr⟩:∃ r,T[k]?=some r:=⟨_,zA3 (by rw [hc.out.1];exact hlt)⟩;have hrm:r.length=m:=hc.out.2.1 r (zA5 hr);have hm:=hc.out.2.2.2.1;obtain ⟨ad,rfl⟩:=HSX.out.place (fun e=>by rw [e] at hr;simp at hr);obtain ⟨Ar,cr,hkn,ecr,sr⟩:=HSX.out.at2 hr;rw [hrm] at ecr sr;have HE:=hQ9 ecr;have HSR:=hQ9 sr;have HRZ:Hid (∀ z∈r,zC5 z<=1000):=hc.out.2.2.2.2.2 r (zA5 hr);have HTS:Hid ((zN8 d T).take (k+1)=(zN8 d T).take k ++ [zN7 d r]):=jM5 hr;have HRM:=hQ9 hrm;have e0:=(HB.out.cell (bQ0 wx _ ecr)).trans ecr;obtain ⟨mkq,hmkq⟩:=Classical.axiomOfChoice (fun w=>qV2 (P:=prog) (w:=w) underlying44 zQ6 m (by omega));have hmk1:=fun w=>(hmkq w).1;obtain ⟨RN0,bm⟩:=(hmkq wo).2;clear hmkq ecr sr hr hrm;obtain ⟨n',hn'⟩:∃ n',n-k=n'+1:=⟨n-k-1,by omega⟩;rw [hn'] at TZ;have HN':Hid (n'=n-(k+1)):=by show _=_;omega
   clear hn';have hgl:gs.length=k:=by rw [TZ.len,bQ7,qX1,hc.out.1];omega
   have HGL:=hQ9 hgl;have hgo:wx.heap.size<=wo.heap.size:=HB.out.size;have TB:=TZ.bQ bm
   have TP:=TabP.start TB RN0 hgo (fun i hi=>by
    have hi2:=(zA4.1 hi).1;obtain ⟨r2,hr2⟩:∃ r2,((zN8 d T).take k)[i]?=some r2:=⟨_,zA3 (by rw [<- TZ.len];exact hi2)⟩
    have:=(TZ.row i _ r2 hi hr2).2.1.lt
    omega)
   rw [hgl] at TP;unfold zX4 at TP;obtain ⟨u4,hu4⟩:∃ u,(zR m (n'+1) gs)[k]?=some u:=⟨_,zA3 (by rw [yN];omega)⟩;have c4:(mkq wo).cell? ⟨wx.heap.size,k,none⟩=some u4:=by rw [TB.blk.1.cell,bW8];exact hu4
   have f4:=TB.blk.1.frozen k;have e1:=(bm.cell (bQ0 wo _ e0)).trans e0;have HBW:Hid (Below wx.heap.size wx _):=(HB.out.trans (bm.mono hgo)).setCell (p:=⟨wx.heap.size,k,none⟩) (zB1 _) (.slice (some ⟨wo.heap.size,0,none⟩) m m);have e2:=(HBW.out.cell (bQ0 wx _ HE.out)).trans HE.out;have ez:([]:List Rat)=(zN7 d r).take 0:=List.take_zero.symm;have TP0:=TP;rw [ez] at TP0;clear ez;clear TP TB TZ RN0 bm HB hu4 hgl;go_wp2
   go_loopw [30] (fun v30 wr => ∃ j:Nat,j<=m/\TabP wr wx.heap.size m wx.heap.size n' gs ((zN8 d T).take k) wo.heap.size ((zN7 d r).take j)/\Hid (Below wx.heap.size wx wr)/\v30=.int .i64 (j:Int)) (fun v30 _=>m-(intOf v30).toNat)
   case atStart=>exact ⟨0,by omega,TP0,HBW,rfl⟩
   case round =>
    clear TP0 HBW e0 e1 e2 c4 f4 hmk1;obtain ⟨j,hj,TP,HB,rfl⟩:=hrel;obtain ⟨wi,hwi⟩:∃ wi,wi=wr:=⟨_,rfl⟩;subst hwi;by_cases hjl:j<m
    ·obtain ⟨z,hz⟩:∃ z,r[j]?=some z:=⟨_,zA3 (by rw [HRM.out];exact hjl)⟩;have hbd:Below wx.heap.size wx wi.drew:=HB.out.trans ((Below.refl _ wi).drew.mono HB.out.size);have e0:wi.drew.cell? _=_:=(hbd.cell (bQ0 wx _ HE.out)).trans HE.out;obtain ⟨g2,o2,uz,rfl,hjm,p0,p1,sz⟩:=HSR.out.at_ hz;obtain ⟨Az,cz,rfl,_⟩:=id sz;have hix:=fun w=>qP0 (P:=prog) underlying48 (by kernel_rfl) (g:=g2) (o:=o2) (c:=cr) hjl w;have hixq:=fun w=>yI8 (P:=prog) underlying44 (by kernel_rfl) (g:=wo.heap.size) (c:=m) hjl w;have x0:=(hbd.cell (bQ0 wx _ p0)).trans p0;have x1:=(hbd.cell (bQ0 wx _ p1)).trans p1;have kz:IsZ wi.drew (.agg #[.bool (ngB z),.slice Az (digs 4294967296 z.natAbs).length cz]) z:=⟨_,rfl,sz.bQ hbd⟩;have BD:=HB1.out.bQ hbd;obtain ⟨y0,y1,_,_⟩:=Blk.two BD;have kd:IsZ wi.drew (.agg #[.bool (ngB d),.slice A1 (digs 4294967296 d.natAbs).length c1]) d:=⟨_,rfl,HS1.out.bQ hbd⟩;have TPd:=TP.drew;have q0:=TPd.cellAt;rw [HGL.out] at q0;unfold zX4 at q0;obtain ⟨Q,hQ⟩:∃ Q,Q=Rat.divInt z d:=⟨_,rfl⟩;have HRS:Hid ((zN7 d r).take (j+1)=(zN7 d r).take j ++ [Q]):=by rw [hQ];exact jM4 hz
     have CM:∀ w a b,IsZ w a z->IsZ w b d->Calls prog 77 #[a,b] w (zU1 Q 0 w):=fun w a b h1 h2=>by rw [hQ];exact jD2 a z b d w h1 h2 (HRZ.out z (zA5 hz)) hc.out.2.2.2.2.1 HD.out
     have HBd:=hQ9 hbd;have hszd:=hbd.size;have hjq:j=((zN7 d r).take j).length:=by rw [bQ7,qX0,HRM.out];omega
     have HJQ:=hQ9 hjq;clear hz hQ hbd p0 p1 sz TP HB BD hjq hjm;go_upto_region 9 with (fail)
     go_region_law (first | (go_simp;go_at_call 77;refine (CM _ _ _ (by exact kz) (by exact kd)).mono ?_;rintro e w3 ⟨v3,rfl,k3,b3⟩;obtain ⟨u3,t3,rfl,s3,d3⟩:=k3;obtain ⟨A3,c3,rfl,_⟩:=id s3;obtain ⟨D3,e3,rfl,_⟩:=id d3;have TP3:=TPd.bQ b3;have q3:=(b3.cell (bQ0 wi.drew _ q0)).trans q0;have z0:=(b3.cell (bQ0 wi.drew _ e0)).trans e0;obtain ⟨p5,q5,t5,P0,P1,P2,F0,F1,F2⟩:=TP3.cur.place hjl))
     all_goals
      obtain ⟨G8,R8,-⟩:=yI7 TP3.cur hjl s3 d3;have TP8:=TP3.set G8 (R8 HJQ.out);rw [<- HRS.out] at TP8;have HB8:=hQ9 ((HBd.out.trans (b3.mono hszd)).grown G8 (zB2 hszd b3.size) (fun q e=>by injection e with e;omega));clear R8 G8 TP3 TPd q0 q3 z0 e0 x0 x1 y0 y1 kz kd s3 d3 b3 CM HBd HRS P0 P1 P2 F0 F1 F2;go_wp2;go_roundw;case rel=>exact ⟨j+1,by omega,TP8,HB8,by go_num⟩
      case measure=>simp [intOf];omega
    ·have TZ2:TabZ wi wx.heap.size m wx.heap.size (n-(k+1)) (gs ++ [wo.heap.size]) ((zN8 d T).take (k+1)):=by
      have h:=TP;rw [show (zN7 d r).take j=zN7 d r from zA7 (by rw [qX0,HRM.out];omega)] at h;rw [HTS.out,<- HN'.out];exact h.done (by rw [qX0,HRM.out])
     clear TP;go_wp2;go_roundw;case rel=>exact ⟨k+1,_,by omega,TZ2,HB,by go_num⟩
     case measure=>simp [intOf];omega
  ·have HT:Hid (SlT .u64 4294967296 wo (.slice (some ⟨wx.heap.size,0,none⟩) n n) (zN8 d T)):=by
    have h:=TZ;rw [zA7 (by rw [qX1,hc.out.1];omega),show n-k=0 by omega] at h;exact h.slT (by rw [qX1,hc.out.1]) (by omega) (by have:=hc.out.2.2.2.1;omega)
   have HBf:Hid (Below w.heap.size w wo):=HX.out.trans (HB.out.mono HX.out.size);clear TZ;go_wp2;go_ret;exact ⟨_,rfl,HT.out,HBf.out⟩
theorem zD0.mono {e:TypeId} {w:World} {base base':Nat} {v:Value} {ps:List Elt} (h:zD0 e w base v ps) (hb:base'<=base):zD0 e w base' v ps:=by
 refine ⟨h.1,?_⟩;rcases h.2 with h1 | ⟨g,cap,cur,h1,h2,h3⟩
 ·exact .inl h1
 ·exact .inr ⟨g,cap,cur,h1,zB2 hb h2,h3⟩
theorem zD0.slice {e:TypeId} {w:World} {base:Nat} {v:Value} {ps:List Elt} (h:zD0 e w base v ps):∃ A c,v=.slice A ps.length c:=by
 rcases h.2 with ⟨e1,h0⟩|⟨g,cap,cur,e1,_⟩
 ·exact ⟨none,0,by rw [e1,h0]⟩
 ·exact ⟨_,_,e1⟩
theorem yN0 (n:Nat):(Builtin.zeroCells (Value.agg #[.bool false,.slice none 0 0,.slice none 0 0]).cells n).size=n*3:=by
 unfold Builtin.zeroCells;rw [show (Value.agg #[.bool false,.slice none 0 0,.slice none 0 0]).cells = #[.bool false,.slice none 0 0,.slice none 0 0] from rfl];simp
section
variable {P:Program}
theorem jM7 {w:World} {ops:Array Oper} {rest:List Oper} {o:Oper} {a:Act} {Q:Exit->Act->World->Prop} (hgd:o.guard=none) (s x:Operand) {t:TypeId}
  (ho:o.op=.call { callee:=.builtin .append,args:=#[s,x],argTypes:=#[t,t] })
  {base:Nat} {T:TypeId} (hT:P.underlying t=some (.slice T)) (hI:∃ i,P.info? T=some i/\i.zero=some (.agg #[.bool false,.slice none 0 0,.slice none 0 0])/\i.size=3/\i.bytes=56) {v u:Value} {ps qs:List Elt} (hs:a.eval s=v) (hown:zD0 T w base v ps) (hx:a.eval x=u) (hu:zN1 w u qs) (hone:∀ p∈qs,p.2.1.oneCell'=true/\p.2.2.oneCell'=true) (hlen:ps.length<=1000000000) (hlen2:qs.length<=1000000000) (hbase:base<=w.heap.size)
  (h:∀ v' w',zD0 T w' base v' (ps ++ qs)->Below base w w'->Hid (zH5 w w' v v')->wpList P ops Q rest (a.put o.dst v') w'):wpList P ops Q (o :: rest) a w :=
 wpList_plain hgd fun _ hK=>by
  obtain ⟨v',w',hrun,g2,g3⟩:=yJ3 (P:=P) (ty:=o.type) hT hI hown hu hone hlen hlen2 hbase;unfold Oper.wp execOp;simp only [ho,resolve,invoke,builtin,Sem.run_bind,Sem.run_pure,Result.andThen_ok,bX7,List.map_cons,List.map_nil,hs,hx,hrun];exact hK _ _ (h v' w' g2 ((Below.refl base w).grown g3.2.1 hbase hown.base_le) g3)
theorem jM8 {w:World} {t tn ty e:TypeId} {kn:IntKind} (hT:P.underlying t=some (.slice e)) (htn:P.underlying tn=some (.int kn)) (hI:∃ i,P.info? e=some i/\i.zero=some (.agg #[.bool false,.slice none 0 0,.slice none 0 0])/\i.size=3/\i.bytes=56) {k:Nat} (h0:0<k) (hk:k<=1000000) :
  ∃ cap w',(Builtin.append_ #[t,tn] ty #[.slice none 0 0,.int .i64 (k:Int)]).run P w=.ok (.slice (some ⟨w.heap.size,0,none⟩) k cap) w'/\k<=cap/\zD0 e w' w.heap.size (.slice (some ⟨w.heap.size,0,none⟩) 0 cap) []/\Below w.heap.size w w':=by
 obtain ⟨i,hi,hz,hs,hb⟩:=hI;have h:=Go.Lib.run_append_grow_zeros (P:=P) w t tn ty e i (.agg #[.bool false,.slice none 0 0,.slice none 0 0]) .i64 kn hT htn hi hz none 0 0 [] (by exact run_firstCells_none w.drew i.size 0 0 0) k h0 (by omega) (by omega) (by omega) (by rw [hb];omega) (growslice_fits (by omega) (by rw [hb];omega));obtain ⟨C,hC⟩:∃ C,C=grownCap w (0+k) 0 e:=⟨_,rfl⟩;have hC1:k<=C:=by rw [hC];have:=grownCap_ge w (0+k) 0 e;omega
 have hC2:C<=maxLen:=by rw [hC];exact grownCap_le_maxLen w (0+k) 0 e (by unfold maxLen;omega)
 rw [<- hC,bY5] at h;refine ⟨C,_,h,hC1,⟨rfl,.inr ⟨w.heap.size,C,_,rfl,zB1 _,heap_alloc_new w.drew _,Nat.zero_le _,hC2,?_,by simp [zF3]⟩⟩,((Below.refl w.heap.size w).drew).trans (zC6 (w:=w.drew) (zB1 _) _)⟩;rw [Array.size_append,Array.size_append,yN0,yN0];simp;omega
theorem jM9 {w:World} {ops:Array Oper} {rest:List Oper} {o:Oper} {a:Act} {Q:Exit->Act->World->Prop} (hgd:o.guard=none) (s x:Operand) {t tn:TypeId} {kn:IntKind}
  (ho:o.op=.call { callee:=.builtin .append,args:=#[s,x],argTypes:=#[t,tn] })
  {e:TypeId} (hT:P.underlying t=some (.slice e)) (htn:P.underlying tn=some (.int kn)) (hI:∃ i,P.info? e=some i/\i.zero=some (.agg #[.bool false,.slice none 0 0,.slice none 0 0])/\i.size=3/\i.bytes=56) {k:Nat} (hs:a.eval s=.slice none 0 0) (hx:a.eval x=.int .i64 (k:Int)) (h0:0<k) (hk:k<=1000000)
  (h:∀ cap w',k<=cap->zD0 e w' w.heap.size (.slice (some ⟨w.heap.size,0,none⟩) 0 cap) []->Below w.heap.size w w'->wpList P ops Q rest (a.put o.dst (.slice (some ⟨w.heap.size,0,none⟩) k cap)) w'):wpList P ops Q (o :: rest) a w :=
 wpList_plain hgd fun _ hK=>by
  obtain ⟨cap,w',hrun,h2,h3,h4⟩:=jM8 (P:=P) (w:=w) (ty:=o.type) hT htn hI h0 hk;unfold Oper.wp execOp;simp only [ho,resolve,invoke,builtin,Sem.run_bind,Sem.run_pure,Result.andThen_ok,bX7,List.map_cons,List.map_nil,hs,hx,hrun];exact hK _ _ (h cap w' h2 h3 h4)
end
theorem jN (n:Nat) (w:World) (hn:n<=1000000):Calls prog 119 #[.slice none 0 0,.int .i64 (n:Int)] w (fun e w' => ∃ V,e=.returned V/\zD0 83 w' w.heap.size V []/\Below w.heap.size w w'):=by
 by_cases h0:0<n
 ·go_enter func119,ntmps119
  go_wp2_with (at_builtin;refine jM9 rfl (.tmp 20) (.tmp 21) rfl underlying44 underlying3 zQ6 (k:=n) rfl (by first | rfl | simp) h0 hn ?_;intro cap w2 hcap R2 b2)
  go_wp2;go_ret;exact ⟨_,rfl,R2,b2⟩
 ·obtain rfl:n=0:=by omega
  go_enter func119,ntmps119
  go_wp2;go_ret;exact ⟨_,rfl,qS7 _ _ _,Below.refl _ _⟩
theorem IsE.one {k:IntKind} {B:Nat} {w:World} {p:Elt} (h:IsE k B w p):p.2.1.oneCell'=true/\p.2.2.oneCell'=true:=by
 obtain ⟨⟨A,c,e,_⟩,B',d,e',_⟩:=h;rw [e,e'];exact ⟨rfl,rfl⟩
theorem jN0 (V:Value) (vs:List Value) (pss:List (List Elt)) (w:World) (hV:IsV w V vs) (hl:vs.length=pss.length) (hp:∀ (i:Nat) (v:Value) (ps:List Elt),vs[i]?=some v->pss[i]?=some ps->zN1 w v ps /\ ∀ p∈ps,p.2.1.oneCell'=true/\p.2.2.oneCell'=true) (hn:pss.length<=10) (hs:∀ ps∈pss,ps.length<=1000) :
  Calls prog 76 #[V] w (fun e w' => ∃ V',e=.returned V'/\zD0 83 w' w.heap.size V' pss.flatten/\Below w.heap.size w w'):=by
 obtain ⟨A,c,rfl,hc,hcells⟩:=hV;have HC:=hQ9 hcells;have HP:=hQ9 hp;have HL:=hQ9 hl;obtain ⟨n,hnv⟩:∃ n,n=vs.length:=⟨_,rfl⟩;rw [<- hnv] at hl hc |-;have HN:Hid (n=vs.length/\n=pss.length/\n<=10):=⟨hnv,by omega,by omega⟩;have HB:=hQ9 (yL7 hs);have hn10:n<=10:=HN.out.2.2;clear hcells hp hs hnv hl hn
 go_enter func76,ntmps76
 go_wp2
 go_loopw [3,11] (fun v3 v11 wr => ∃ k s:Nat,k<=n/\Hid (s=((pss.take k).flatten).length)/\Hid (Below w.heap.size w wr)/\v3=.int .i64 (s:Int)/\v11=.int .i64 (k:Int)) (fun _ v11 _=>n-(intOf v11).toNat)
 case atStart =>
  have H0:Hid (0=((pss.take 0).flatten).length):=by show _=_;simp
  exact ⟨0,0,by omega,H0,Below.refl _ _,rfl,rfl⟩
 case round =>
  obtain ⟨k,s,hk,HS,HBw,rfl,rfl⟩:=hrel;obtain ⟨wo,hwo⟩:∃ wo,wo=wr:=⟨_,rfl⟩;subst hwo;have hsb:s<=10000:=by have h1:=HB.out k;have h2:=HS.out;have h3:=HN.out;have:k*1000<=10*1000:=bY4 _ (by omega);omega
  by_cases hlt:k<n
  ·obtain ⟨v,hv⟩:∃ v,vs[k]?=some v:=⟨_,zA3 (by have:=HN.out.1;omega)⟩;obtain ⟨ps,hps⟩:∃ ps,pss[k]?=some ps:=⟨_,zA3 (by have:=HN.out.2.1;omega)⟩;obtain ⟨ad,rfl,ec0⟩:=HC.out k v hv;have ec:=(HBw.out.cell (bQ0 w _ ec0)).trans ec0;obtain ⟨Av,cv,rfl,hcv,hcm,-⟩:=(HP.out k v ps hv hps).1;have hpl:ps.length<=11000:=by have h1:=HB.out (k+1);rw [zZ4 hps] at h1;have h3:=HN.out;have:(k+1)*1000<=11*1000:=bY4 _ (by omega);omega
   have HS2:Hid (s+ps.length=((pss.take (k+1)).flatten).length):=by show _=_;rw [zZ4 hps,<- HS.out]
   clear hv hps ec0;go_wp2;go_roundw;case rel=>exact ⟨k+1,s+ps.length,by omega,HS2,HBw,by go_num,by go_num⟩
   case measure=>simp [intOf];omega
  ·obtain rfl:n=k:=by omega
   go_wp2_with fail
   refine (jN s _ (by omega)).mono ?_;rintro e w2 ⟨V2,rfl,R2,b2⟩;have hbo:=HBw.out.size;have R2m:=R2.mono hbo;have HB2:Hid (Below w.heap.size w w2):=HBw.out.trans (b2.mono hbo);obtain ⟨Ar,cr,rfl⟩:=R2.slice;clear R2 b2;go_wp2
   go_loopw [6,27] (fun v6 v27 wr => ∃ k:Nat,k<=n/\zD0 83 wr w.heap.size v6 (pss.take k).flatten/\Hid (Below w.heap.size w wr)/\v27=.int .i64 (k:Int)) (fun _ v27 _=>n-(intOf v27).toNat)
   case atStart=>exact ⟨0,by omega,by simpa using R2m,HB2,rfl⟩
   case round =>
    clear R2m HB2;obtain ⟨k,hk,R,HBr,rfl⟩:=hrel;obtain ⟨wi,hwi⟩:∃ wi,wi=wr:=⟨_,rfl⟩;subst hwi;obtain ⟨A6,c6,rfl⟩:=R.slice;obtain ⟨m6,hm6⟩:∃ m6,m6=((pss.take k).flatten).length:=⟨_,rfl⟩;rw [<- hm6] at R |-;have HM6:=hQ9 hm6;have hm6b:((pss.take k).flatten).length<=1000000000:=by have h1:=HB.out k;have h3:=HN.out;have:k*1000<=10*1000:=bY4 _ (by omega);omega
    clear hm6;by_cases hlt:k<n
    ·obtain ⟨v,hv⟩:∃ v,vs[k]?=some v:=⟨_,zA3 (by have:=HN.out.1;omega)⟩;obtain ⟨ps,hps⟩:∃ ps,pss[k]?=some ps:=⟨_,zA3 (by have:=HN.out.2.1;omega)⟩;obtain ⟨ad,rfl,ec0⟩:=HC.out k v hv;have ec:=(HBr.out.cell (bQ0 w _ ec0)).trans ec0;obtain ⟨sp0,hone⟩:=HP.out k v ps hv hps;have sp:=sp0.bQ HBr.out;obtain ⟨Av,cv,rfl,hcv,hcm,-⟩:=id sp;have hlen:ps.length<=1000000000:=by have h1:=HB.out (k+1);rw [zZ4 hps] at h1;have h3:=HN.out;have:(k+1)*1000<=11*1000:=bY4 _ (by omega);omega
     have hbase:=HBr.out.size;have HF:Hid ((pss.take (k+1)).flatten=(pss.take k).flatten ++ ps):=qW8 hps;clear hv hps ec0 sp0
     go_wp2_with (at_builtin;refine jM7 rfl (.tmp 31) (.tmp 32) rfl underlying44 zQ6 rfl R rfl sp hone hm6b hlen hbase ?_;intro V3 w3 R3 b3 G3)
     have R4:zD0 83 w3 w.heap.size V3 (pss.take (k+1)).flatten:=by rw [HF.out];exact R3
     have HB3:Hid (Below w.heap.size w w3):=HBr.out.trans b3;clear R3 R sp HBr G3 b3 ec;go_wp2;go_roundw;case rel=>exact ⟨k+1,by omega,R4,HB3,by go_num⟩
     case measure=>simp [intOf];omega
    ·obtain rfl:k=n:=by omega
     have HT:Hid (pss.take k=pss):=zA7 (by have:=HN.out.2.1;omega);go_wp2;go_ret;exact ⟨_,rfl,by have:=R;rwa [HT.out] at this,HBr.out⟩
theorem yN1 (V x y:Value) (ps qs:List Rat) (w:World) (hV:IsV w V [x,y]) (h0:SlF .u64 4294967296 w x ps) (h1:SlF .u64 4294967296 w y qs) (l0:ps.length<=1000) (l1:qs.length<=1000) :
  Calls prog 76 #[V] w (fun e w' => ∃ V',e=.returned V'/\SlF .u64 4294967296 w' V' (ps ++ qs)/\Below w.heap.size w w'):=by
 obtain ⟨pa,hpa,va,ea⟩:=h0;obtain ⟨pb,hpb,vb,eb⟩:=h1;have la:pa.length=ps.length:=by rw [<- hpa,zA9]
 have lb:pb.length=qs.length:=by rw [<- hpb,zA9]
 refine (jN0 V [x,y] [pa,pb] w hV rfl (fun i v p hv hp=>by
  rcases i with _ | _ | i
  ·obtain rfl:x=v:=by simpa using hv
   obtain rfl:pa=p:=by simpa using hp
   exact ⟨va,fun p hp=>(ea p hp).one⟩
  ·obtain rfl:y=v:=by simpa using hv
   obtain rfl:pb=p:=by simpa using hp
   exact ⟨vb,fun p hp=>(eb p hp).one⟩
  ·simp at hv) (by simp) (fun p hp=>by simp at hp;rcases hp with rfl|rfl<;>omega)).mono ?_
 rintro e w' ⟨V',rfl,R,b⟩;refine ⟨V',rfl,⟨[pa,pb].flatten,by simp [hpa,hpb],R.isVF,fun p hp => ?_⟩,b⟩;simp at hp;rcases hp with hp | hp
 ·exact (ea p hp).bQ b
 ·exact (eb p hp).bQ b
def qC3 (A B:List (List Rat)):List (List Int):=(zD4 A B).map fun r=>(zN6 r).take A.length
def qC4 (A B:List (List Rat)):List (List Int):=(zD4 A B).map fun r=>(zN6 r).drop A.length
theorem zE2.other {k:IntKind} {B:Nat} {w w':World} {g g':Nat} {TS:TypeId} {us us':List Value} {T:List (List Int)} (h:zE2 k B w g TS us T) (h':zG1 w g' TS us') (hne:g≠g') (hg:w.grownBy w' (some g')):zE2 k B w' g TS us T :=
 ⟨h.1.grown hg (fun e=>hne (by injection e with e;exact e.symm)),h.2.1,fun i u r hu hr=>h'.keepZ hg (h.2.2 i u r hu hr)⟩
theorem zE2.blank {k:IntKind} {B:Nat} {w:World} {g n:Nat} {TS:TypeId} (h:zG1 w g TS (zB n (.slice none 0 0))):zE2 k B w g TS (zB n (.slice none 0 0)) (zB n []):=by
 refine ⟨h,by rw [bW7,bW7],fun i u r hu hr => ?_⟩;obtain rfl:=(List.mem_replicate.1 (zA5 hu)).2;obtain rfl:=(List.mem_replicate.1 (zA5 hr)).2;exact qH8 _ _ _ (Nat.zero_le _)
theorem yN2 {B:Nat} {w:World} {gL gR k:Nat} {TS:TypeId} {us vs:List Value} {T1 T2:List (List Int)} {uL uR:Value} {rL rR:List Int} (TL:zE2 .u64 B w gL TS us T1) (TR:zE2 .u64 B w gR TS vs T2) (hne:gL≠gR) (sL:SlZ .u64 B w uL rL) (sR:SlZ .u64 B w uR rR) :
  zE2 .u64 B ((w.setCell ⟨gL,k,none⟩ uL).setCell ⟨gR,k,none⟩ uR) gL TS (us.set k uL) (T1.set k rL)/\zE2 .u64 B ((w.setCell ⟨gL,k,none⟩ uL).setCell ⟨gR,k,none⟩ uR) gR TS (vs.set k uR) (T2.set k rR):=by
 have L1:=TL.stored k sL;have R1:=TR.other TL.1 (fun e=>hne e.symm) (zE9 w gL k uL);have sR1:=TL.1.keepZ (zE9 w gL k uL) sR;exact ⟨L1.other R1.1 hne (zE9 _ gR k uR),R1.stored k sR1⟩
structure ClrIn (A B:List (List Rat)) (S:Nat):Prop where
 ok:okq A B
 wide:A.length+zC B<=100
 la:zE0 A S
 lb:zE0 B S
 small:S<=100
theorem jN1 (a0 a1:Value) (A B:List (List Rat)) (S:Nat) (w:World) (h0:SlT .u64 4294967296 w a0 A) (h1:SlT .u64 4294967296 w a1 B) (hc:Hid (ClrIn A B S)) :
    Calls prog 36 #[a0,a1] w (fun e w' => ∃ V U,e=.returned (.tuple #[V,U])/\SlW .u64 4294967296 w' V (qC3 A B)/\SlW .u64 4294967296 w' U (qC4 A B)/\Below w.heap.size w w'):=by
  obtain ⟨n,hn⟩:∃ n,n=A.length:=⟨_,rfl⟩;obtain ⟨m,hm⟩:∃ m,m=zC B:=⟨_,rfl⟩;obtain ⟨A0,c0,rfl,hc0,hm0⟩:=h0.shape;obtain ⟨A1,c1,rfl,hc1,hm1⟩:=h1.shape;unfold maxLen at hm0 hm1;have hnm:n+m<=100:=by rw [hn,hm];exact hc.out.wide
  have hSA:shp A n n:=by rw [hn];exact hc.out.ok.sa
  have hSB:shp B n m:=by rw [hn,hm];exact hc.out.ok.sb
  have HSA:=hQ9 hSA;have HSB:=hQ9 hSB;have HS0:=hQ9 h0;have HS1:=hQ9 h1;have hBl:B.length=n:=hSB.1;have HNA:=hQ9 hn;have HM:=hQ9 hm;obtain ⟨M1,hM1⟩:∃ M1,M1=qC3 A B:=⟨_,rfl⟩;obtain ⟨M2,hM2⟩:∃ M2,M2=qC4 A B:=⟨_,rfl⟩;obtain ⟨T0,hT0⟩:∃ T0,T0=zB n ([]:List Int):=⟨_,rfl⟩;have hJ:(zD4 A B).length=n:=(zX3 hSA hSB).1;have HML:Hid ((M1.length=T0.length/\M2.length=T0.length)/\T0.length=n):=⟨⟨by rw [hM1,hT0,bW7];unfold qC3;rw [zA9,hJ],by rw [hM2,hT0,bW7];unfold qC4;rw [zA9,hJ]⟩,by rw [hT0,bW7]⟩;have HMM:=hQ9 (zA hM1 hM2);obtain ⟨mk,hmk⟩:=Classical.axiomOfChoice (fun w=>qH2 (P:=prog) (w:=w) underlying73 yK3 n (by omega));have hmk1:=fun w=>(hmk w).1;have HMK:=hQ9 (fun w=>(hmk w).2);have HT0:=hQ9 hT0;rw [<- hn] at hc0;rw [hBl] at hc1;clear hmk hM1 hM2 hT0 h0 h1 hSA hSB hJ
  go_enter func36,ntmps36
  rw [<- hn,hBl];clear hn hm hBl;go_upto_region 2 with (fail);obtain ⟨t1,m1⟩:=HMK.out w.drew;obtain ⟨t2,m2⟩:=HMK.out (mk w.drew);obtain ⟨x1,hx1⟩:∃ x1,x1=w.heap.size:=⟨_,rfl⟩;obtain ⟨x2,hx2⟩:∃ x2,x2=(mk w.drew).heap.size:=⟨_,rfl⟩;obtain ⟨w3,hw3⟩:∃ w3,w3=mk (mk w.drew):=⟨_,rfl⟩;have hxx:w.heap.size<=x1/\x1<x2:=⟨by omega,by rw [hx1,hx2];exact t1.lt⟩;have hbd:=(Below.refl w.heap.size w).drew
  have HB3:Hid (Below w.heap.size w w3):=by
    rw [hw3];exact (hbd.trans (m1.mono hbd.size)).trans (m2.mono (zB2 hbd.size m1.size))
  have TWx1:zE2 .u64 4294967296 w3 x1 48 (zB n (.slice none 0 0)) T0:=by
    rw [HT0.out,hw3,hx1];exact zE2.blank (t1.bQ m2)
  have TWx2:zE2 .u64 4294967296 w3 x2 48 (zB n (.slice none 0 0)) T0:=by
    rw [HT0.out,hw3,hx2];exact zE2.blank t2
  clear t1 m1 t2 m2 hbd;go_region
  · rw [<- hx1, <- hx2, <- hw3];clear hx1 hx2 hw3;have TL:=TWx1;have TR:=TWx2;have hLR : x1 ≠ x2:=by omega
    clear TWx1 TWx2;go_wp2
    go_loopw [19] (fun v19 wr => ∃ (k:Nat) (us vs:List Value),k<=n/\zE2 .u64 4294967296 wr x1 48 us (zK T0 M1 k)/\zE2 .u64 4294967296 wr x2 48 vs (zK T0 M2 k)/\Hid (Below w.heap.size w wr)/\v19=.int .i64 (k:Int)) (fun v19 _=>n-(intOf v19).toNat)
    case atStart=>exact ⟨0,_,_,by omega,by rw [qH9];exact TL,by rw [qH9];exact TR,HB3,rfl⟩
    case round =>
      clear TL TR HB3;obtain ⟨k,us,vs,hk,TL,TR,HB,rfl⟩:=hrel;obtain ⟨wi,hwi⟩:∃ wi,wi=wr:=⟨_,rfl⟩;subst hwi;by_cases hkn:k<n
      · obtain ⟨p,hp,hpl⟩:=zI0 HSA.out hkn;obtain ⟨q,hq,hql⟩:=zI0 HSB.out hkn;have k0:=HS0.out.bQ HB.out;have k1:=HS1.out.bQ HB.out;obtain ⟨ad0,rfl⟩:=k0.place (fun e=>by rw [e] at hp;cases hp);obtain ⟨ad1,rfl⟩:=k1.place (fun e=>by rw [e] at hq;cases hq);obtain ⟨Ap,cp,hip,ecp,sp⟩:=k0.at2 hp;obtain ⟨Aq,cq,hiq,ecq,sq⟩:=k1.at2 hq;rw [hpl] at ecp sp;rw [hql] at ecq sq;have HP:=hQ9 (zA hp (zA hpl (zA hq hql)));obtain ⟨PQ,hPQ⟩:∃ PQ,PQ=p ++ q:=⟨_,rfl⟩;obtain ⟨N,hN⟩:∃ N,N=n+m:=⟨_,rfl⟩;obtain ⟨Z,hZ⟩:∃ Z,Z=zN6 (p ++ q):=⟨_,rfl⟩;have HZ:=hQ9 hZ;have HZL:Hid (Z.length=N):=by show _=_;rw [hN,hZ,qC2,zA8,hpl,hql]
        have CC:∀ W,Below wi.heap.size wi W->Calls prog 76 #[.slice (some ⟨W.heap.size,0,none⟩) 2 2] (W.alloc (.cells #[.slice Ap n cp,.slice Aq m cq] 44)) (fun e w' => ∃ V,e=.returned V/\SlF .u64 4294967296 w' V PQ/\Below W.heap.size W w'):=fun W hb=>by
          have ba:=zC6 (w:=W) (zB1 _) (.cells #[.slice Ap n cp,.slice Aq m cq] 44);refine (yN1 _ (.slice Ap n cp) (.slice Aq m cq) p q _ (zS4 W 44 [.slice Ap n cp,.slice Aq m cq]) ((sp.bQ hb).bQ ba) ((sq.bQ hb).bQ ba) (by omega) (by omega)).mono ?_;rintro e w' ⟨V,rfl,h2,h3⟩;exact ⟨V,rfl,by rw [hPQ];exact h2,ba.trans (h3.mono ba.size)⟩
        have CZ:∀ W V,SlF .u64 4294967296 W V PQ->Calls prog 20 #[V] W (fun e w' => ∃ (g o:Nat) (v:Value),e=.returned (.tuple #[.slice (some ⟨g,o,none⟩) N N,v])/\W.heap.size<=g/\SlZ .u64 4294967296 w' (.slice (some ⟨g,o,none⟩) N N) Z/\Below W.heap.size W w'):=fun W V h=>by
          have hl:(p ++ q).length=N:=by rw [zA8,hpl,hql,hN]
          rw [hPQ] at h;refine (yM7 V (p ++ q) S W h ⟨by omega,hc.out.small,fun x hx => ?_⟩).mono ?_
          · rcases List.mem_append.1 hx with hx | hx
            · exact hc.out.la p (zA5 hp) x hx
            · exact hc.out.lb q (zA5 hq) x hx
          · rintro e w' ⟨g,v,rfl,h1,h2,-,h4⟩;rw [hl] at h2 |-;exact ⟨g,0,v,rfl,h1,by rw [hZ];exact h2.sl (by rw [qC2,hl]) (by omega),h4⟩
        have HRK:Hid (M1[k]?=some (Z.take n)/\M2[k]?=some (Z.drop n)):=by
          show _/\_
          rw [HMM.out.1,HMM.out.2];unfold qC3 qC4;rw [bQ8,bQ8,qP7 hp hq,HNA.out,hZ];exact ⟨rfl,rfl⟩
        have hNn:n<=N:=by omega
        have hN100:N<=100:=by omega
        clear hp hq hpl hql sp sq hZ k0 k1 hPQ hN;have hbd:=(Below.refl wi.heap.size wi).drew;go_upto_region 6 with (fail)
        go_region_law (first | (go_simp;go_at_call 76;refine (CC _ (by exact hbd)).mono ?_;rintro e w4 ⟨V4,rfl,s4,b4⟩;obtain ⟨A4,c4,rfl,-,-⟩:=id s4.shape)|(go_simp;go_at_call 20;refine (CZ _ _ (by exact s4)).mono ?_;rintro e w5 ⟨gx,ox,v5,rfl,hgx,s5,b5⟩))
        all_goals
          have b45:Below wi.heap.size wi w5:=(hbd.trans (b4.mono hbd.size)).trans (b5.mono (zB2 hbd.size b4.size));have TL5:=TL.bQ b45;have TR5:=TR.bQ b45;have HB5:Hid (Below w.heap.size w w5):=HB.out.trans (b45.mono HB.out.size);obtain ⟨A2,hA2⟩:∃ A2:Option Addr,A2=if N=n then some ⟨gx,ox,none⟩ else some ⟨gx,ox+n*2,none⟩:=⟨_,rfl⟩
          have sL:SlZ .u64 4294967296 w5 (.slice (some ⟨gx,ox,none⟩) n N) (Z.take n):=s5.take (by rw [HZL.out];exact hNn)
          have sR:SlZ .u64 4294967296 w5 (.slice A2 (N-n) (N-n)) (Z.drop n):=by
            by_cases e:N=n
            · rw [hA2,if_pos e,List.drop_eq_nil_of_le (by rw [HZL.out];omega),show N-n=0 by omega];exact qH8 _ _ _ (Nat.zero_le _)
            · rw [hA2,if_neg e];exact s5.drop (by rw [HZL.out];exact hNn)
          obtain ⟨x,hx⟩:∃ x,T0[k]?=some x:=⟨_,zA3 (by rw [HML.out.2];exact hkn)⟩;have hm1:(zK T0 M1 k)[k]?=some x:=by rw [qI0 HML.out.1.1 (by rw [HML.out.2];omega)];exact hx
          have hm2:(zK T0 M2 k)[k]?=some x:=by rw [qI0 HML.out.1.2 (by rw [HML.out.2];omega)];exact hx
          obtain ⟨AL,cL,-,ecL,-⟩:=TL5.at_ hm1;obtain ⟨AR,cR,-,ecR,-⟩:=TR5.at_ hm2;have fL:=TL5.1.1.frozen k;have fR:=TR5.1.1.frozen k;have hA3:=hA2.symm;have hjc2:¬ N<n:=by omega
          have HX:=hQ9 (zA TL5 (zA TR5 (zA sL sR)));have hRL:x2≠x1:=fun e=>hLR e.symm;clear TL TR TL5 TR5 sL sR hx hm1 hm2 s5 b45 b4 b5 s4 HB CC CZ hA2 hgx hbd ecp ecq;go_upto_region 7 with (fail);go_region
          all_goals
            obtain ⟨TL6,TR6⟩:=yN2 (k:=k) HX.out.1 HX.out.2.1 hLR HX.out.2.2.1 HX.out.2.2.2;rw [qI1 HML.out.1.1 HRK.out.1] at TL6;rw [qI1 HML.out.1.2 HRK.out.2] at TR6;have TL7:=TL6.drew;have TR7:=TR6.drew;have G7:=(zE9 w5 x1 k (.slice (some ⟨gx,ox,none⟩) n N));have HB6:Hid (Below w.heap.size w _):=((HB5.out.setCell (p:=⟨x1,k,none⟩) (show w.heap.size<=x1 by omega) (.slice (some ⟨gx,ox,none⟩) n N)).setCell (p:=⟨x2,k,none⟩) (show w.heap.size<=x2 by omega) (.slice A2 (N-n) (N-n))).drew;clear TL6 TR6 HX HB5 G7 ecL ecR fL fR;go_wp2;go_roundw;case rel=>exact ⟨k+1,_,_,by omega,TL7,TR7,HB6,by go_num⟩
            case measure=>simp [intOf];omega
      · have TLn:zE2 .u64 4294967296 wi x1 48 us M1:=by
          have h1:=qI HML.out.1.1;rw [HML.out.2] at h1;rw [show k=n by omega,h1] at TL;exact TL
        have TRn:zE2 .u64 4294967296 wi x2 48 vs M2:=by
          have h1:=qI HML.out.1.2;rw [HML.out.2] at h1;rw [show k=n by omega,h1] at TR;exact TR
        have hV:=TLn.sub (o:=0) (m:=n) (c:=n) (by rw [HML.out.1.1,HML.out.2];omega) (zB1 n) (by unfold maxLen;omega);have hU:=TRn.sub (o:=0) (m:=n) (c:=n) (by rw [HML.out.1.2,HML.out.2];omega) (zB1 n) (by unfold maxLen;omega);rw [List.drop_zero,zA7 (by rw [HML.out.1.1,HML.out.2];exact zB1 n)] at hV;rw [List.drop_zero,zA7 (by rw [HML.out.1.2,HML.out.2];exact zB1 n)] at hU;have HVU:=hQ9 (zA hV hU);clear TL TR TLn TRn hV hU;go_wp2;go_ret2;exact ⟨_,_,rfl,by rw [<- HMM.out.1];exact HVU.out.1,by rw [<- HMM.out.2];exact HVU.out.2,HB.out⟩
  · rw [<- hx1, <- hx2, <- hw3];clear hx1 hx2 hw3;have TL:=TWx2;have TR:=TWx1;have hLR : x2 ≠ x1:=by omega
    clear TWx1 TWx2;go_wp2
    go_loopw [19] (fun v19 wr => ∃ (k:Nat) (us vs:List Value),k<=n/\zE2 .u64 4294967296 wr x2 48 us (zK T0 M1 k)/\zE2 .u64 4294967296 wr x1 48 vs (zK T0 M2 k)/\Hid (Below w.heap.size w wr)/\v19=.int .i64 (k:Int)) (fun v19 _=>n-(intOf v19).toNat)
    case atStart=>exact ⟨0,_,_,by omega,by rw [qH9];exact TL,by rw [qH9];exact TR,HB3,rfl⟩
    case round =>
      clear TL TR HB3;obtain ⟨k,us,vs,hk,TL,TR,HB,rfl⟩:=hrel;obtain ⟨wi,hwi⟩:∃ wi,wi=wr:=⟨_,rfl⟩;subst hwi;by_cases hkn:k<n
      · obtain ⟨p,hp,hpl⟩:=zI0 HSA.out hkn;obtain ⟨q,hq,hql⟩:=zI0 HSB.out hkn;have k0:=HS0.out.bQ HB.out;have k1:=HS1.out.bQ HB.out;obtain ⟨ad0,rfl⟩:=k0.place (fun e=>by rw [e] at hp;cases hp);obtain ⟨ad1,rfl⟩:=k1.place (fun e=>by rw [e] at hq;cases hq);obtain ⟨Ap,cp,hip,ecp,sp⟩:=k0.at2 hp;obtain ⟨Aq,cq,hiq,ecq,sq⟩:=k1.at2 hq;rw [hpl] at ecp sp;rw [hql] at ecq sq;have HP:=hQ9 (zA hp (zA hpl (zA hq hql)));obtain ⟨PQ,hPQ⟩:∃ PQ,PQ=p ++ q:=⟨_,rfl⟩;obtain ⟨N,hN⟩:∃ N,N=n+m:=⟨_,rfl⟩;obtain ⟨Z,hZ⟩:∃ Z,Z=zN6 (p ++ q):=⟨_,rfl⟩;have HZ:=hQ9 hZ;have HZL:Hid (Z.length=N):=by show _=_;rw [hN,hZ,qC2,zA8,hpl,hql]
        have CC:∀ W,Below wi.heap.size wi W->Calls prog 76 #[.slice (some ⟨W.heap.size,0,none⟩) 2 2] (W.alloc (.cells #[.slice Ap n cp,.slice Aq m cq] 44)) (fun e w' => ∃ V,e=.returned V/\SlF .u64 4294967296 w' V PQ/\Below W.heap.size W w'):=fun W hb=>by
          have ba:=zC6 (w:=W) (zB1 _) (.cells #[.slice Ap n cp,.slice Aq m cq] 44);refine (yN1 _ (.slice Ap n cp) (.slice Aq m cq) p q _ (zS4 W 44 [.slice Ap n cp,.slice Aq m cq]) ((sp.bQ hb).bQ ba) ((sq.bQ hb).bQ ba) (by omega) (by omega)).mono ?_;rintro e w' ⟨V,rfl,h2,h3⟩;exact ⟨V,rfl,by rw [hPQ];exact h2,ba.trans (h3.mono ba.size)⟩
        have CZ:∀ W V,SlF .u64 4294967296 W V PQ->Calls prog 20 #[V] W (fun e w' => ∃ (g o:Nat) (v:Value),e=.returned (.tuple #[.slice (some ⟨g,o,none⟩) N N,v])/\W.heap.size<=g/\SlZ .u64 4294967296 w' (.slice (some ⟨g,o,none⟩) N N) Z/\Below W.heap.size W w'):=fun W V h=>by
          have hl:(p ++ q).length=N:=by rw [zA8,hpl,hql,hN]
          rw [hPQ] at h;refine (yM7 V (p ++ q) S W h ⟨by omega,hc.out.small,fun x hx => ?_⟩).mono ?_
          · rcases List.mem_append.1 hx with hx | hx
            · exact hc.out.la p (zA5 hp) x hx
            · exact hc.out.lb q (zA5 hq) x hx
          · rintro e w' ⟨g,v,rfl,h1,h2,-,h4⟩;rw [hl] at h2 |-;exact ⟨g,0,v,rfl,h1,by rw [hZ];exact h2.sl (by rw [qC2,hl]) (by omega),h4⟩
        have HRK:Hid (M1[k]?=some (Z.take n)/\M2[k]?=some (Z.drop n)):=by
          show _/\_
          rw [HMM.out.1,HMM.out.2];unfold qC3 qC4;rw [bQ8,bQ8,qP7 hp hq,HNA.out,hZ];exact ⟨rfl,rfl⟩
        have hNn:n<=N:=by omega
        have hN100:N<=100:=by omega
        clear hp hq hpl hql sp sq hZ k0 k1 hPQ hN;have hbd:=(Below.refl wi.heap.size wi).drew;go_upto_region 6 with (fail)
        go_region_law (first | (go_simp;go_at_call 76;refine (CC _ (by exact hbd)).mono ?_;rintro e w4 ⟨V4,rfl,s4,b4⟩;obtain ⟨A4,c4,rfl,-,-⟩:=id s4.shape)|(go_simp;go_at_call 20;refine (CZ _ _ (by exact s4)).mono ?_;rintro e w5 ⟨gx,ox,v5,rfl,hgx,s5,b5⟩))
        all_goals
          have b45:Below wi.heap.size wi w5:=(hbd.trans (b4.mono hbd.size)).trans (b5.mono (zB2 hbd.size b4.size));have TL5:=TL.bQ b45;have TR5:=TR.bQ b45;have HB5:Hid (Below w.heap.size w w5):=HB.out.trans (b45.mono HB.out.size);obtain ⟨A2,hA2⟩:∃ A2:Option Addr,A2=if N=n then some ⟨gx,ox,none⟩ else some ⟨gx,ox+n*2,none⟩:=⟨_,rfl⟩
          have sL:SlZ .u64 4294967296 w5 (.slice (some ⟨gx,ox,none⟩) n N) (Z.take n):=s5.take (by rw [HZL.out];exact hNn)
          have sR:SlZ .u64 4294967296 w5 (.slice A2 (N-n) (N-n)) (Z.drop n):=by
            by_cases e:N=n
            · rw [hA2,if_pos e,List.drop_eq_nil_of_le (by rw [HZL.out];omega),show N-n=0 by omega];exact qH8 _ _ _ (Nat.zero_le _)
            · rw [hA2,if_neg e];exact s5.drop (by rw [HZL.out];exact hNn)
          obtain ⟨x,hx⟩:∃ x,T0[k]?=some x:=⟨_,zA3 (by rw [HML.out.2];exact hkn)⟩;have hm1:(zK T0 M1 k)[k]?=some x:=by rw [qI0 HML.out.1.1 (by rw [HML.out.2];omega)];exact hx
          have hm2:(zK T0 M2 k)[k]?=some x:=by rw [qI0 HML.out.1.2 (by rw [HML.out.2];omega)];exact hx
          obtain ⟨AL,cL,-,ecL,-⟩:=TL5.at_ hm1;obtain ⟨AR,cR,-,ecR,-⟩:=TR5.at_ hm2;have fL:=TL5.1.1.frozen k;have fR:=TR5.1.1.frozen k;have hA3:=hA2.symm;have hjc2:¬ N<n:=by omega
          have HX:=hQ9 (zA TL5 (zA TR5 (zA sL sR)));have hRL:x1≠x2:=fun e=>hLR e.symm;clear TL TR TL5 TR5 sL sR hx hm1 hm2 s5 b45 b4 b5 s4 HB CC CZ hA2 hgx hbd ecp ecq;go_upto_region 7 with (fail);go_region
          all_goals
            obtain ⟨TL6,TR6⟩:=yN2 (k:=k) HX.out.1 HX.out.2.1 hLR HX.out.2.2.1 HX.out.2.2.2;rw [qI1 HML.out.1.1 HRK.out.1] at TL6;rw [qI1 HML.out.1.2 HRK.out.2] at TR6;have TL7:=TL6.drew;have TR7:=TR6.drew;have G7:=(zE9 w5 x2 k (.slice (some ⟨gx,ox,none⟩) n N));have HB6:Hid (Below w.heap.size w _):=((HB5.out.setCell (p:=⟨x2,k,none⟩) (show w.heap.size<=x2 by omega) (.slice (some ⟨gx,ox,none⟩) n N)).setCell (p:=⟨x1,k,none⟩) (show w.heap.size<=x1 by omega) (.slice A2 (N-n) (N-n))).drew;clear TL6 TR6 HX HB5 G7 ecL ecR fL fR;go_wp2;go_roundw;case rel=>exact ⟨k+1,_,_,by omega,TL7,TR7,HB6,by go_num⟩
            case measure=>simp [intOf];omega
      · have TLn:zE2 .u64 4294967296 wi x2 48 us M1:=by
          have h1:=qI HML.out.1.1;rw [HML.out.2] at h1;rw [show k=n by omega,h1] at TL;exact TL
        have TRn:zE2 .u64 4294967296 wi x1 48 vs M2:=by
          have h1:=qI HML.out.1.2;rw [HML.out.2] at h1;rw [show k=n by omega,h1] at TR;exact TR
        have hV:=TLn.sub (o:=0) (m:=n) (c:=n) (by rw [HML.out.1.1,HML.out.2];omega) (zB1 n) (by unfold maxLen;omega);have hU:=TRn.sub (o:=0) (m:=n) (c:=n) (by rw [HML.out.1.2,HML.out.2];omega) (zB1 n) (by unfold maxLen;omega);rw [List.drop_zero,zA7 (by rw [HML.out.1.1,HML.out.2];exact zB1 n)] at hV;rw [List.drop_zero,zA7 (by rw [HML.out.1.2,HML.out.2];exact zB1 n)] at hU;have HVU:=hQ9 (zA hV hU);clear TL TR TLn TRn hV hU;go_wp2;go_ret2;exact ⟨_,_,rfl,by rw [<- HMM.out.1];exact HVU.out.1,by rw [<- HMM.out.2];exact HVU.out.2,HB.out⟩
end rat
namespace rat
open Go.RowKit Go.Shelf num mem nat txt str flow whl
def RetExO (w:World) (e:Ending) (w':World):Prop:=Below w.heap.size w w' /\ ∃ V,e=.returned (.tuple #[V,.int .i64 0])/\SlT .u64 4294967296 w' V [[Rat.divInt 1 2]]
theorem yN3:zE0 [[(2:Rat)]] 1/\zE0 [[(1:Rat)]] 1:=by
 have h2:zC2 (2:Rat) 1:=⟨zG5 (k:=1) (by omega) (by decide +kernel),zG5 (k:=1) (by omega) (by decide +kernel)⟩;have h1:zC2 (1:Rat) 1:=⟨zG5 (k:=1) (by omega) (by decide +kernel),zG5 (k:=1) (by omega) (by decide +kernel)⟩;refine ⟨fun r hr x hx => ?_,fun r hr x hx => ?_⟩
 ·rw [List.mem_singleton.1 hr] at hx;rw [List.mem_singleton.1 hx];exact h2
 ·rw [List.mem_singleton.1 hr] at hx;rw [List.mem_singleton.1 hx];exact h1
theorem yN4:zC5 1<=1:=zG5 (by omega) (by decide)
theorem yN5:zC5 2<=1:=zG5 (by omega) (by decide)
theorem yN6:okq [[(2:Rat)]] [[(1:Rat)]]:=⟨rfl,⟨by show 1<=200;omega,by show 1<=200;omega,fun r hr=>by rw [List.mem_singleton.1 hr];rfl⟩,⟨by show 1<=200;omega,by show 1<=200;omega,fun r hr=>by rw [List.mem_singleton.1 hr];rfl⟩,rfl⟩
theorem yN7:qC3 [[(2:Rat)]] [[(1:Rat)]]=[[2]]/\qC4 [[(2:Rat)]] [[(1:Rat)]]=[[1]]:=by decide +kernel
theorem jN2 (a0 a1:Value) (w:World) (h0:SlT .u64 4294967296 w a0 [[2]]) (h1:SlT .u64 4294967296 w a1 [[1]]) :
  Calls prog 36 #[a0,a1] w (fun e w' => ∃ V U,e=.returned (.tuple #[V,U])/\SlW .u64 4294967296 w' V [[2]]/\SlW .u64 4294967296 w' U [[1]]/\Below w.heap.size w w'):=by
 have h:=jN1 a0 a1 [[2]] [[1]] 1 w h0 h1 ⟨yN6,by show 1+1<=100;omega,yN3.1,yN3.2,by omega⟩;rw [yN7.1,yN7.2] at h;exact h
theorem jN3 (a0 a1:Value) (A B:List (List Rat)) (w:World) (h0:SlT .u64 4294967296 w a0 A) (h1:SlT .u64 4294967296 w a1 B) (hc:Hid (A=[[2]]/\B=[[1]])) :
  Calls prog 9 #[a0,a1] w (RetExO w):=by
 obtain ⟨A0,c0,rfl,hc0,hm0⟩:=h0.shape;obtain ⟨A1,c1,rfl,hc1,hm1⟩:=h1.shape;unfold maxLen at hm0 hm1;have HS0:=hQ9 h0;have HS1:=hQ9 h1;obtain ⟨m,hm⟩:∃ m,m=zC B:=⟨_,rfl⟩;have hnm:A.length+m<=100:=by rw [hm,hc.out.1,hc.out.2];show 1+1<=100;omega
 have HO:Hid (okq A B):=by rw [hc.out.1,hc.out.2];exact yN6
 clear h0 h1
 go_enter func9,ntmps9;go_wp2_with fail
 refine (zS9 _ B _ HS1.out).mono ?_;rintro e w1 ⟨rfl,b1⟩;rw [<- hm];clear hm;have CF:=qX _ _ A B true _ (HS0.out.bQ b1) (HS1.out.bQ b1) ⟨fun _=>HO.out,fun _=>rfl⟩;have HB1:=hQ9 b1;go_wp2_with fail
 refine CF.mono ?_;rintro e w2 ⟨rfl,b2⟩;have HB2:Hid (Below w.heap.size w w2):=HB1.out.trans (b2.mono HB1.out.size);have hmx1:¬ (100:Int)<((A.length:Nat):Int):=by omega
 have hmx2:¬ (100:Int)<((m:Nat):Int):=by omega
 clear b1 b2 CF;have CK:=fun w2 (h0:SlT .u64 4294967296 w2 (.slice A0 A.length c0) A) (h1:SlT .u64 4294967296 w2 (.slice A1 B.length c1) B)=>jN2 (.slice A0 A.length c0) (.slice A1 B.length c1) w2 (by rw [<- hc.out.1];exact h0) (by rw [<- hc.out.2];exact h1)
 go_wp2_with fail
 all_goals
  refine (CK _ (HS0.out.bQ HB2.out) (HS1.out.bQ HB2.out)).mono ?_;rintro e w3 ⟨V3,U3,rfl,sv3,su3,b3⟩;have HB3:Hid (Below w.heap.size w w3):=HB2.out.trans (b3.mono HB2.out.size);obtain ⟨AV,cV,rfl,-,-⟩:=id sv3.shape;obtain ⟨AU,cU,rfl,-,-⟩:=id su3.shape;have CS:=jK8 _ _ 2 1 w3 sv3 su3 ⟨by decide,zB2 yN5 (by omega),zB2 yN4 (by omega)⟩;obtain ⟨l1,hl1⟩:∃ l1,l1=([[(2:Int)]]:List (List Int)).length:=⟨_,rfl⟩;obtain ⟨l2,hl2⟩:∃ l2,l2=([[(1:Int)]]:List (List Int)).length:=⟨_,rfl⟩;rw [<- hl1,<- hl2] at CS |-;obtain ⟨d,hd⟩:∃ d:Int,d=2:=⟨_,rfl⟩;rw [<- hd] at CS;have HD:=hQ9 hd;clear CK b3 sv3 su3 hl1 hl2 hd;go_wp2_with fail
  refine CS.mono ?_;rintro e w4 ⟨b4,V4,v4,rfl,sv4,hz4⟩;have HB4:Hid (Below w.heap.size w w4):=HB3.out.trans (b4.mono HB3.out.size);obtain ⟨u4,rfl,s4⟩:=hz4;obtain ⟨A4,c4,rfl,_⟩:=id s4;obtain ⟨AX,cX,rfl,-,-⟩:=id sv4.shape;obtain ⟨l3,hl3⟩:∃ l3,l3=([[(1:Int)]]:List (List Int)).length:=⟨_,rfl⟩;rw [<- hl3] at sv4 |-;obtain ⟨wx,hwx,bx,BX,hsx⟩:=zK4 w4 60 #[.bool false,.slice none 0 0];obtain ⟨V0,V1,F0,F1⟩:=Blk.two BX;obtain ⟨C0,C1,-,-⟩:=Blk.two (qP3 BX (.bool (ngB d)) (.slice A4 (digs 4294967296 d.natAbs).length c4));have b8:=(bx.setCell (p:=⟨w4.heap.size,0,none⟩) (zB1 _) (.bool (ngB d))).setCell (p:=⟨w4.heap.size,1,none⟩) (zB1 _) (.slice A4 (digs 4294967296 d.natAbs).length c4);have sX8:=sv4.bQ b8;have s8:=s4.bQ b8;have HB8:Hid (Below w.heap.size w _):=HB4.out.trans (b8.mono HB4.out.size);have CO:=fun W v u (h0:SlW .u64 4294967296 W v [[1]]) (h1:IsZ W u d)=>jM6 v u [[1]] d 1 1 W h0 h1 (by rw [HD.out];decide) ⟨rfl,fun r hr=>by rw [List.mem_singleton.1 hr];rfl,by omega,by omega,by rw [HD.out];exact zB2 yN5 (by omega),fun r hr z hz=>by rw [List.mem_singleton.1 hr] at hz;rw [List.mem_singleton.1 hz];exact zB2 yN4 (by omega)⟩;clear sv4 s4 b8 BX bx CS b4 hl3
  go_wp2_with fail
  refine (CO _ _ _ (by exact sX8) ⟨_,rfl,(by exact s8)⟩).mono ?_;rintro e w9 ⟨v9,rfl,s9,b9⟩
  have HS9:Hid (SlT .u64 4294967296 w9 v9 [[Rat.divInt 1 2]]):=by
   have h:zN8 d [[1]]=[[Rat.divInt 1 2]]:=by rw [HD.out];rfl
   rw [h] at s9;exact s9
  have HB9:Hid (Below w.heap.size w w9):=HB8.out.trans (b9.mono HB8.out.size);clear s9 b9 sX8 s8 CO C0 C1 V0 V1 F0 F1 hwx;go_wp2;go_ret2;exact ⟨HB9.out,v9,rfl,HS9.out⟩
theorem qI7 (w:World) (T1 T2:TypeId) {q:Rat} {u t:Value} (h1:IsS w .u64 u (digs 4294967296 q.num.natAbs)) (h2:IsS w .u64 t (digs 4294967296 q.den)) :
  ∃ w2,(w.alloc (.cells #[.bool (ngB q.num),u,t] T1)).alloc (.cells #[.slice (some ⟨w.heap.size,0,none⟩) 1 1] T2)=w2/\SlT .u64 4294967296 w2 (.slice (some ⟨w.heap.size+1,0,none⟩) 1 1) [[q]]/\Below w.heap.size w w2:=by
 obtain ⟨w1,hw1⟩:∃ w1,w1=w.alloc (.cells #[.bool (ngB q.num),u,t] T1):=⟨_,rfl⟩;have hs:=jF6 w T1 h1 h2;have b1:=zC6 (w:=w) (zB1 _) (.cells #[.bool (ngB q.num),u,t] T1);have hz:w1.heap.size=w.heap.size+1:=by rw [hw1];simp
 rw [<- hw1] at hs b1 |-;have b2:=zC6 (w:=w1) (zB1 _) (.cells #[.slice (some ⟨w.heap.size,0,none⟩) 1 1] T2);have hv:=zS4 w1 T2 [.slice (some ⟨w.heap.size,0,none⟩) 1 1];have st:=slT_one hv (hs.bQ b2) (fun A n c e=>by injection e with _ _ e3;subst e3;unfold maxLen;simp);rw [hz] at st;exact ⟨_,rfl,st,b1.trans (b2.mono b1.size)⟩
theorem jN4:zE0 [[(2:Rat)]] 1/\zE0 [[(1:Rat)]] 1/\zE0 [[(2:Rat),1]] 1:=by
 have h2:zC2 (2:Rat) 1:=⟨zG5 (k:=1) (by omega) (by decide +kernel),zG5 (k:=1) (by omega) (by decide +kernel)⟩;have h1:zC2 (1:Rat) 1:=⟨zG5 (k:=1) (by omega) (by decide +kernel),zG5 (k:=1) (by omega) (by decide +kernel)⟩;refine ⟨fun r hr x hx => ?_,fun r hr x hx => ?_,fun r hr x hx => ?_⟩
 ·simp at hr;subst hr;simp at hx;subst hx;exact h2
 ·simp at hr;subst hr;simp at hx;subst hx;exact h1
 ·simp at hr;subst hr;simp at hx;rcases hx with rfl|rfl;exact h2;exact h1
theorem jN5:SolIn [[(2:Rat)]] [[(1:Rat)]] 3:=by
 obtain ⟨l1,l2,l3⟩:=jN4;refine ⟨by simp,by show 1+1<=200;omega,fun r hr x hx=>(l1 r hr x hx).mono (by omega),fun r hr x hx=>(l2 r hr x hx).mono (by omega),fun _ => ?_⟩;show zX1 [[(2:Rat),1]] 3
 have hs:shp [[(2:Rat),1]] 1 2:=⟨rfl,fun r hr=>by simp at hr;subst hr;rfl⟩;exact ⟨by simp,by show 2<=200;omega,jC5 hs l3,by omega,by simp,by simp⟩
theorem jN6:okq [[(2:Rat)]] [[(1:Rat)]]:=⟨rfl,⟨by simp,by show 1<=200;omega,fun r hr=>by simp at hr;subst hr;rfl⟩,⟨by simp,by show 1<=200;omega,fun r hr=>by simp at hr;subst hr;rfl⟩,rfl⟩
theorem yN8:zE5 1 (zB6 [[(2:Rat)]])≠0:=by
 show zE5 1 (zB6 [[(2:Rat)]])≠0
 decide +kernel
theorem jN7:SolQ [[(2:Rat)]] [[(1:Rat)]] [[Rat.divInt 1 2]]:=by
 refine ⟨⟨rfl,fun r hr=>by simp at hr;subst hr;rfl⟩,fun i j hi hj => ?_⟩;obtain rfl:i=0:=by have:i<1:=hi;omega
 obtain rfl:j=0:=by have:j<1:=hj;omega
 decide +kernel
theorem jN8 {L:Nat} {w:World} {e:Ending} {w':World} {P O:Rat} (hP:P=2) (hO:O=1) (h:yM8 [[P]] [[O]] L w e w'):Below w.heap.size w w' /\ ∃ V,e=.returned (.tuple #[V,.int .i64 0])/\SlT .u64 4294967296 w' V [[Rat.divInt 1 2]]:=by
 subst hP;subst hO;rcases h with ⟨_,hb,(⟨hd,V,X,he,hs,hx,_⟩|⟨hd,_⟩)⟩|⟨hn,_⟩
 ·exact ⟨hb,V,he,by rw [jN7.one hx yN8];exact hs⟩
 ·exact absurd hd yN8
 ·exact absurd jN6 hn
theorem qQ0 (w:World):Calls prog 13 #[] w (zD3 (.bool true) w):=by
 obtain ⟨O,hO⟩:∃ O:Rat,O=((1:Int):Rat):=⟨_,rfl⟩;obtain ⟨P,hP⟩:∃ P:Rat,P=((2:Int):Rat):=⟨_,rfl⟩;obtain ⟨H,hH⟩:∃ H:Rat,H=Rat.divInt 1 2:=⟨_,rfl⟩;have CO:∀ w,Calls prog 41 #[.int .i64 1] w (RetQ O w):=fun w=>by rw [hO];exact qH 1 _ (by omega) (by omega)
 have CP:∀ w,Calls prog 41 #[.int .i64 2] w (RetQ P w):=fun w=>by rw [hP];exact qH 2 _ (by omega) (by omega)
 have CH:∀ w,Calls prog 42 #[.int .i64 1,.int .i64 2] w (zU1 H 0 w):=fun w=>by rw [hH];exact jD4 1 2 w (by omega) (by omega) (by omega)
 have eP:P=2:=by rw [hP];rfl
 have eO:O=1:=by rw [hO];rfl
 have HE:=hQ9 (zA eP eO);have HH:=hQ9 hH;have CS:∀ w a b,SlT .u64 4294967296 w a [[P]]->SlT .u64 4294967296 w b [[O]]->Calls prog 8 #[a,b] w (fun e w'=>Below w.heap.size w w' /\ ∃ V,e=.returned (.tuple #[V,.int .i64 0])/\SlT .u64 4294967296 w' V [[H]]):=fun w a b h0 h1=>(jM1 a b [[P]] [[O]] 3 w h0 h1 (by rw [eP,eO];exact jN5)).mono fun e w' h=>by rw [hH];exact jN8 eP eO h
 have CX:∀ w a b,SlT .u64 4294967296 w a [[P]]->SlT .u64 4294967296 w b [[O]]->Calls prog 9 #[a,b] w (fun e w'=>Below w.heap.size w w' /\ ∃ V,e=.returned (.tuple #[V,.int .i64 0])/\SlT .u64 4294967296 w' V [[H]]):=fun w a b h0 h1=>(jN3 a b [[P]] [[O]] w h0 h1 ⟨by rw [eP],by rw [eO]⟩).mono fun e w' h=>by rw [hH];exact h
 have CM:∀ w a b,SlT .u64 4294967296 w a [[H]]->SlT .u64 4294967296 w b [[H]]->Calls prog 10 #[a,b] w (zD3 (.bool true) w):=fun w a b h0 h1=>jF2 a b [[H]] [[H]] true w h0 h1 (by simp);clear hO hP hH eP eO
 go_enter func13,ntmps13;go_wp2_with fail
 refine (CP _).mono ?_;rintro e w1 ⟨v0,rfl,k0,-,b1⟩;obtain ⟨u0,t0,rfl,q0,d0⟩:=k0;obtain ⟨A0,c0,rfl,_⟩:=id q0;obtain ⟨D0,e0,rfl,_⟩:=id d0;obtain ⟨w2,hw2,st2,b2⟩:=qI7 w1 83 44 q0 d0;have B2:=b1.trans (b2.mono b1.size);clear q0 d0 b1 b2;go_wp2_with fail
 refine (CO _).mono ?_;rintro e w3 ⟨v1,rfl,k1,-,b3⟩;obtain ⟨u1,t1,rfl,q1,d1⟩:=k1;obtain ⟨A1,c1,rfl,_⟩:=id q1;obtain ⟨D1,e1,rfl,_⟩:=id d1;obtain ⟨w4,hw4,st4,b4⟩:=qI7 w3 83 44 q1 d1;have st24:=(st2.bQ b3).bQ (b4.mono (zB1 _));have B3:=B2.trans (b3.mono B2.size);have B4:=B3.trans (b4.mono B3.size);clear q1 d1 b3 b4 st2 B2 B3;go_wp2_with fail
 refine (CS _ _ _ st24 st4).mono ?_;rintro e w5 ⟨b5,V5,rfl,sx⟩;have B5:=B4.trans (b5.mono B4.size);obtain ⟨AX,cX,rfl,-,-⟩:=id sx.shape;clear st24 st4 b5 B4 hw2 hw4;go_wp2_with fail
 refine (CH _).mono ?_;rintro e w6 ⟨v6,rfl,k6,b6⟩;obtain ⟨u6,t6,rfl,q6,d6⟩:=k6;obtain ⟨A6,c6,rfl,_⟩:=id q6;obtain ⟨D6,e6,rfl,_⟩:=id d6;have B6:=B5.trans (b6.mono B5.size);have sx6:=sx.bQ b6;obtain ⟨wx,hwx,bx,BX,hsx⟩:=zK4 w6 83 #[.bool false,.slice none 0 0,.slice none 0 0];have V0:wx.cell? ⟨w6.heap.size,0,none⟩=some (.bool false):=BX.cell 0;have V1:wx.cell? ⟨w6.heap.size,1,none⟩=some (.slice none 0 0):=BX.cell 1;have V2:wx.cell? ⟨w6.heap.size,2,none⟩=some (.slice none 0 0):=BX.cell 2;have F0:=BX.frozen 0;have F1:=BX.frozen 1;have F2:=BX.frozen 2;have BY:=zZ1 BX (.bool (ngB H.num)) (.slice A6 (digs 4294967296 H.num.natAbs).length c6) (.slice D6 (digs 4294967296 H.den).length e6);obtain ⟨w7,hw7⟩:∃ w7,((wx.setCell ⟨w6.heap.size,0,none⟩ (.bool (ngB H.num))).setCell ⟨w6.heap.size,1,none⟩ (.slice A6 (digs 4294967296 H.num.natAbs).length c6)).setCell ⟨w6.heap.size,2,none⟩ (.slice D6 (digs 4294967296 H.den).length e6)=w7:=⟨_,rfl⟩
 have b7:Below w6.heap.size w6 w7:=by
  rw [<- hw7];exact ((bx.setCell (p:=⟨w6.heap.size,0,none⟩) (zB1 _) _).setCell (p:=⟨w6.heap.size,1,none⟩) (zB1 _) _).setCell (p:=⟨w6.heap.size,2,none⟩) (zB1 _) _
 rw [hw7] at BY;have B7:=B6.trans (b7.mono B6.size);have sx7:=sx6.bQ b7;have q7:=q6.bQ b7;have d7:=d6.bQ b7;clear sx sx6 b6 b7 bx BX B5 B6 q6 d6;clear hsx;go_wp2_with fail
 refine (CP _).mono ?_;rintro e w8 ⟨v8,rfl,k8,-,b8⟩;obtain ⟨u8,t8,rfl,q8,d8⟩:=k8;obtain ⟨A8,c8,rfl,_⟩:=id q8;obtain ⟨D8,e8,rfl,_⟩:=id d8;obtain ⟨w9,hw9,st9,b9⟩:=qI7 w8 83 44 q8 d8;have B8:=B7.trans (b8.mono B7.size);have B9:=B8.trans (b9.mono B8.size);have c79:=b8.trans (b9.mono b8.size);have BY9:=BY.bQ c79;have sx9:=sx7.bQ c79;have q9:=q7.bQ c79;have d9:=d7.bQ c79;clear hw7 V0 V1 V2 F0 F1 F2 hwx BY sx7 q7 d7 q8 d8 b8 b9 c79 B7 B8;go_wp2_with fail
 refine (CO _).mono ?_;rintro e w10 ⟨v10,rfl,k10,-,b10⟩;obtain ⟨u10,t10,rfl,q10,d10⟩:=k10;obtain ⟨A10,c10,rfl,_⟩:=id q10;obtain ⟨D10,e10,rfl,_⟩:=id d10;obtain ⟨w11,hw11,st11,b11⟩:=qI7 w10 83 44 q10 d10;have B10:=B9.trans (b10.mono B9.size);have B11:=B10.trans (b11.mono B10.size);have c911:=b10.trans (b11.mono b10.size);have BY11:=BY9.bQ c911;have sx11:=sx9.bQ c911;have q11:=q9.bQ c911;have d11:=d9.bQ c911;have st911:=st9.bQ c911;clear hw9 BY9 sx9 q9 d9 q10 d10 b10 b11 c911 B9 B10 st9;go_wp2_with fail
 refine (CX _ _ _ st911 st11).mono ?_;rintro e w12 ⟨b12,V12,rfl,sy⟩;have B12:=B11.trans (b12.mono B11.size);obtain ⟨AY,cY,rfl,-,-⟩:=id sy.shape;have BY12:=BY11.bQ b12;have sx12:=sx11.bQ b12;have q12:=q11.bQ b12;have d12:=d11.bQ b12;have C0:w12.cell? ⟨w6.heap.size,0,none⟩=some (.bool (ngB H.num)):=BY12.cell 0;have C1:w12.cell? ⟨w6.heap.size,1,none⟩=some (.slice A6 (digs 4294967296 H.num.natAbs).length c6):=BY12.cell 1;have C2:w12.cell? ⟨w6.heap.size,2,none⟩=some (.slice D6 (digs 4294967296 H.den).length e6):=BY12.cell 2;obtain ⟨w13,hw13,st13,b13⟩:=qI7 w12 83 44 q12 d12;have sx13:=sx12.bQ b13;have sy13:=sy.bQ b13;have B13:=B12.trans (b13.mono B12.size);clear hw11 BY11 sx11 q11 d11 st911 st11 b12 B11 BY12 q12 d12 b13 B12 sx12 sy;go_wp2_with fail
 refine (CM _ _ _ sx13 st13).mono ?_;rintro e w14 ⟨rfl,b14⟩;have B14:=B13.trans (b14.mono B13.size);have sx14:=sx13.bQ b14;have sy14:=sy13.bQ b14;clear hw13 C0 C1 C2 st13 sx13 sy13 b14 B13;go_wp2_with fail
 refine (CM _ _ _ sy14 sx14).mono ?_;rintro e w15 ⟨rfl,b15⟩;go_wp2;go_ret;exact ⟨rfl,B14.trans (b15.mono B14.size)⟩
theorem qX2 (n D:Nat) (M:Nat->Nat->Rat):∀ a,a<=D -> ∃ (E:Nat->Nat->Rat) (k:Nat) (p:Nat->Nat) (P:Nat->Nat->Rat),Ech n a E k p/\Red n E k p 0/\zE4 n D M E /\ ∀ i j,i<n->E i j=zC0 n (fun l=>P i l*M l j)
  | 0, _ => by
    refine ⟨M,0,id,fun i l=>if i=l then 1 else 0,Ech.zero n M id,fun m _ h=>by omega,zE4.refl _ _ _,fun i j hi => ?_⟩;rw [zK7 (a:=i) hi (fun l _ hne=>by simp only [if_neg (fun e:i=l=>hne e.symm)];exact Rat.zero_mul _)];simp only [if_true];exact (Rat.one_mul _).symm
  | a + 1, ha => by
    obtain ⟨E,k,p,P,hE,hR,hK,hP⟩:=qX2 n D M a (by omega);by_cases h0:∀ i,k<=i->i<n->E i a=0
    · exact ⟨E,k,p,P,hE.skip h0,hR,hK,hP⟩
    · obtain ⟨i,hi,hin,hne⟩:∃ i,k<=i/\i<n/\E i a≠0:=bQ1 fun h=>h0 fun i h1 h2=>bQ1 fun h3=>h ⟨i,h1,h2,h3⟩;have hk:k<n:=by omega
      have hP1:∀ r j,r<n->zD9 E k i r j=zC0 n (fun l=>zD9 P k i r l*M l j):=fun r j hr=>by
        unfold zD9;by_cases e1:r=k
        · simp only [if_pos e1];exact hP i j hin
        · by_cases e2:r=i
          · simp only [if_neg e1,if_pos e2];exact hP k j hk
          · simp only [if_neg e1,if_neg e2];exact hP r j hr
      have hE1:=hE.swap hi hin;have hR1:=hR.swap hi hin;have hne1:zD9 E k i k a≠0:=by unfold zD9;rw [if_pos rfl];exact hne
      have hi1:=Rat.mul_inv_cancel _ hne1;obtain ⟨c,hc⟩:∃ c,c=(zD9 E k i k a)⁻¹:=⟨_,rfl⟩
      have hine:c≠0:=fun e=>by
        rw [<- hc,e] at hi1
        revert hi1
        rw [Rat.mul_zero]
        decide
      have hE2:=hE1.scale c;have h1:zE8 (zD9 E k i) k c k a=1:=by unfold zE8;rw [if_pos rfl,hc];exact hi1
      have hP2:∀ r j,r<n->zE8 (zD9 E k i) k c r j=zC0 n (fun l=>zE8 (zD9 P k i) k c r l*M l j):=fun r j hr=>by
        unfold zE8;by_cases e:r=k
        · simp only [if_pos e];rw [hP1 r j hr,Rat.mul_comm,<- zJ4];exact zF2 fun l _=>by grind
        · simp only [if_neg e];exact hP1 r j hr
      obtain ⟨t,ht⟩:∃ t:Nat->Rat,t=fun r=>if r=k then 0 else zE8 (zD9 E k i) k c r a:=⟨_,rfl⟩
      have htk:t k=0:=by rw [ht];exact if_pos rfl
      have hts:∀ r,r≠k->t r=zE8 (zD9 E k i) k c r a:=fun r hr=>by rw [ht];exact if_neg hr
      have hE3:=hE2.clear (t:=t) hk h1 htk (fun r hr _=>hts r (by omega));have hR3:=Red.clear (t:=t) (hR1.scale c) hE2 hk h1 htk (fun r hr _=>hts r hr);refine ⟨_,_,_,zI1 (zE8 (zD9 P k i) k c) k t,hE3,hR3,hK.trans ((qU0 E hk hin).trans ((qU1 _ hine).trans (qN1 _ hk htk))),fun r j hr => ?_⟩;unfold zI1;rw [hP2 r j hr,hP2 k j hk,<- zJ4];have e:zC0 n (fun l=>zE8 (zD9 P k i) k c r l*M l j)-zC0 n (fun l=>t r*(zE8 (zD9 P k i) k c k l*M l j))=zC0 n (fun l=>zE8 (zD9 P k i) k c r l*M l j)+(-1)*zC0 n (fun l=>t r*(zE8 (zD9 P k i) k c k l*M l j)):=by grind
      rw [e,<- zJ4,<- zU8];exact zF2 fun l _=>by grind
theorem fred {n C:Nat} {A:Nat->Nat->Rat} {b:Nat->Rat} (h:∀ y:Nat->Rat,(∀ j,j<C->zC0 n (fun i=>y i*A i j)=0)->zC0 n (fun i=>y i*b i)=0):∃ x:Nat->Rat,∀ i,i<n->zC0 C (fun j=>A i j*x j)=b i:=by
 obtain ⟨E,k,p,P,hE,hR,hK,hP⟩:=qX2 n (C+1) (fun i j=>if j<C then A i j else b i) C (by omega)
 have hz:∀ i,k<=i->i<n->E i C=0:=fun i hi hin=>by
  rw [hP i C hin]
  have h1:=h (P i) (fun j hj=>by
   have h2:=hP i j hin;rw [hE.rest i hi hin j hj] at h2;rw [h2];exact zF2 fun l _=>by simp only [if_pos hj])
  rw [<- h1];exact zF2 fun l _=>by simp only [if_neg (Nat.lt_irrefl C)]
 have hE2:=hE.skip hz;have hf:∀ i,i<k->p i≠C:=fun i hi e=>by have:=hE.lt i hi;omega
 have h1:=(hK _).2 (zW6 hE2 hR (show C<C+1 by omega) hf);refine ⟨fun j => -(nv E k p C j),fun i hi => ?_⟩;have h2:=h1 i hi
 have e:zC0 (C+1) (fun j=>(if j<C then A i j else b i)*nv E k p C j)=zC0 C (fun j=>A i j*nv E k p C j)+b i:=by
  show zC0 C _+_=_
  rw [zF2 (g:=fun j=>A i j*nv E k p C j) (fun j hj=>by simp only [if_pos hj])];simp only [if_neg (Nat.lt_irrefl C),zS7]
  grind
 rw [e] at h2;have e2:=qP4 C (fun j=>A i j) (fun j=>nv E k p C j);rw [e2]
 grind
theorem nv_span {n C k:Nat} {E:Nat->Nat->Rat} {p:Nat->Nat} (hE:Ech n C E k p) (hR:Red n E k p 0) {y:Nat->Rat} (hy:zY9 n C E y) {b:Nat->Rat} (hb:∀ j,j<C->(∀ i,i<k->p i≠j)->zC0 C (fun c=>nv E k p j c*b c)=0):zC0 C (fun c=>y c*b c)=0:=by
 classical
 obtain ⟨F,hF⟩:∃ F:Nat->Rat,F=fun j=>if (∀ i,i<k->p i≠j) then y j else 0:=⟨_,rfl⟩
 have key:∀ c,c<C->y c=zC0 C (fun j=>F j*nv E k p j c):=fun c hc=>by
  by_cases hf:∀ i,i<k->p i≠c
  ·rw [zK7 (a:=c) hc (fun j hj hne=>by
    rw [hF];by_cases hfj:∀ i,i<k->p i≠j
    ·rw [zZ0 (fun e=>hne e.symm) hf,Rat.mul_zero]
    ·simp only [if_neg hfj];exact Rat.zero_mul _),zS7,hF]
   simp only [if_pos hf];exact (Rat.mul_one _).symm
  ·obtain ⟨i,hi,hpc⟩:∃ i,i<k/\p i=c:=bQ1 fun h=>hf fun i hi e=>h ⟨i,hi,e⟩;subst hpc;have hin:i<n:=by have:=hE.le;omega
   have h1:=hy i hin
   have e:zC0 C (fun j=>E i j*y j)=zC0 C (fun j=>(if j=p i then y j else 0)+E i j*F j):=zF2 fun j hj=>by
    rw [hF];by_cases hj1:j=p i
    ·subst hj1;have hnf:¬ ∀ m,m<k->p m≠p i:=fun h=>h i hi rfl;simp only [if_neg hnf,if_true];rw [hE.one i hi];grind
    ·by_cases hfj:∀ m,m<k->p m≠j
     ·simp only [if_neg hj1,if_pos hfj];grind
     ·obtain ⟨m,hm,hpm⟩:∃ m,m<k/\p m=j:=bQ1 fun h=>hfj fun m hm e=>h ⟨m,hm,e⟩;subst hpm;simp only [if_neg hj1,if_neg hfj];rw [hR m (Nat.zero_le _) hm i hin (fun e=>hj1 (by rw [e]))];grind
   rw [e,zU8,zK7 (a:=p i) hc (fun j hj hne=>if_neg hne),if_pos rfl] at h1
   have e2:zC0 C (fun j=>F j*nv E k p j (p i))=zC0 C (fun j=>(-1)*(E i j*F j)):=zF2 fun j hj=>by
    by_cases hne:p i=j
    ·have h0:F j=0:=by rw [hF];exact if_neg fun h=>h i hi hne
     rw [h0];grind
    ·rw [qG4 hE hi hne];grind
   rw [e2,zJ4]
   grind
 rw [zF2 (g:=fun c=>zC0 C (fun j=>F j*nv E k p j c*b c)) (fun c hc=>by
  have h1:=key c hc;have e:=zJ4 C (b c) (fun j=>F j*nv E k p j c);rw [<- h1] at e;rw [Rat.mul_comm,<- e];exact zF2 fun j _=>by grind),qG3]
 refine zN3 fun j hj => ?_
 by_cases hf:∀ i,i<k->p i≠j
 ·have h1:=hb j hj hf;have e:=zJ4 C (F j) (fun c=>nv E k p j c*b c);rw [h1,Rat.mul_zero] at e;rw [<- e];exact zF2 fun c _=>by grind
 ·have h0:F j=0:=by rw [hF];exact if_neg hf
  exact zN3 fun c _=>by rw [h0];grind
def zP9 (n C:Nat) (A:Nat->Nat->Rat) (b:Nat->Rat):Prop:=∃ x:Nat->Rat,∀ i,i<n->zC0 C (fun j=>A i j*x j)=b i
theorem yN9 {n C:Nat} {A:Nat->Nat->Rat} {b y:Nat->Rat} (h:zP9 n C A b) (hy:∀ j,j<C->zC0 n (fun i=>y i*A i j)=0):zC0 n (fun i=>y i*b i)=0:=by
 obtain ⟨x,hx⟩:=h
 rw [zF2 (g:=fun i=>zC0 C (fun j=>y i*A i j*x j)) (fun i hi=>by
  rw [<- hx i hi,<- zJ4];exact zF2 fun j _=>by grind),qG3]
 refine zN3 fun j hj => ?_;have e:=zJ4 n (x j) (fun i=>y i*A i j);rw [hy j hj,Rat.mul_zero] at e;rw [<- e];exact zF2 fun i _=>by grind
theorem jN9 {n C:Nat} {A:Nat->Nat->Rat} {b:Nat->Rat} : zP9 n C A b ↔ ∀ y:Nat->Rat,(∀ j,j<C->zC0 n (fun i=>y i*A i j)=0)->zC0 n (fun i=>y i*b i)=0:=⟨fun h y hy=>yN9 h hy,fred⟩
theorem yO {n C m k:Nat} {A B E:Nat->Nat->Rat} {p:Nat->Nat} (hE:Ech n (C+m) E k p) (hR:Red n E k p 0) (hK:zE4 n (C+m) (zI7 C A B) E):(∀ i,i<k->p i<C) ↔ ∀ c,c<m->zP9 n C A (fun i=>B i c):=by
  constructor
  · intro h c hc;have h1:=(hK _).2 (zW6 hE hR (show C+c<C+m by omega) (fun i hi e=>by have:=h i hi;omega));refine ⟨fun j => -(nv E k p (C+c) j),fun i hi => ?_⟩;have h2:=h1 i hi;rw [qI4] at h2;have e1:zC0 C (fun j=>zI7 C A B i j*nv E k p (C+c) j)=zC0 C (fun j=>A i j*nv E k p (C+c) j):=zF2 fun j hj=>by unfold zI7;rw [if_pos hj]
    have e2:zC0 m (fun j=>zI7 C A B i (C+j)*nv E k p (C+c) (C+j))=B i c:=by
      rw [zK7 (a:=c) hc (fun j hj hne=>by
        rw [zZ0 (fun e=>hne (by omega)) (fun i hi e=>by have:=h i hi;omega),Rat.mul_zero]),zS7]
      unfold zI7;rw [if_neg (by omega),Nat.add_sub_cancel_left,Rat.mul_one]
    rw [e1,e2] at h2;have e3:=qP4 C (fun j=>A i j) (fun j=>nv E k p (C+c) j);rw [e3]
    grind
  · intro h i hi;refine bQ1 fun hn => ?_;have hlt:=hE.lt i hi;have hin:i<n:=by have:=hE.le;omega
    obtain ⟨x,hx0⟩:=h (p i-C) (by omega);have hx:∀ r,r<n->zC0 C (fun j=>A r j*x j)=B r (p i-C):=hx0
    have h1:=(hK (fun j=>if j<C then x j else if j=p i then -1 else 0)).1 (fun r hr=>by
      rw [qI4]
      have e1:zC0 C (fun j=>zI7 C A B r j*(if j<C then x j else if j=p i then -1 else 0))=B r (p i-C):=by
        rw [<- hx r hr];exact zF2 fun j hj=>by unfold zI7;rw [if_pos hj,if_pos hj]
      have e2:zC0 m (fun j=>zI7 C A B r (C+j)*(if C+j<C then x (C+j) else if C+j=p i then -1 else 0)) = -(B r (p i-C)):=by
        rw [zK7 (a:=p i-C) (by omega) (fun j hj hne=>by
          rw [if_neg (by omega),if_neg (by omega),Rat.mul_zero]),if_neg (by omega),if_pos (by omega)]
        unfold zI7;rw [if_neg (by omega),Nat.add_sub_cancel_left]
        grind
      rw [e1,e2]
      grind) i hin
    rw [zK7 (a := p i) hlt (fun j hj hne=>by
      rcases Nat.lt_trichotomy j (p i) with hl|hl|hl
      · rw [hE.lead i hi j hl,Rat.zero_mul]
      · exact absurd hl hne
      · simp only [if_neg (show ¬ j<C by omega),if_neg hne];exact Rat.mul_zero _),hE.one i hi] at h1
    simp only [if_neg hn,if_true] at h1;rw [Rat.one_mul] at h1
    revert h1
    decide
theorem yO0 {n C m k k':Nat} {A B E T:Nat->Nat->Rat} {p p':Nat->Nat} (hE:Ech n (C+m) E k p) (hR:Red n E k p 0) (hK:zE4 n (C+m) (zI7 C A B) E) (hT:Ech n C T k' p') (hR':Red n T k' p' 0) (hK':zE4 n C A T):k'<k ↔ ¬ ∀ i,i<k->p i<C:=by
  obtain ⟨q, hq1, hq2, hq3⟩ : ∃ q, q <= k /\ (∀ i, i < q -> p i < C) /\ ∀ i, q <= i -> i < k -> C <= p i := by
    have key:∀ t,t<=k -> ∃ q,q<=t/\(∀ i,i<q->p i<C) /\ ∀ i,q<=i->i<t->C<=p i:=by
      intro t
      induction t with
      | zero=>intro _;exact ⟨0,zB1 0,fun i h=>by omega,fun i _ h=>by omega⟩
      | succ t ih =>
        intro ht;obtain ⟨q,h1,h2,h3⟩:=ih (by omega);by_cases hpt:p t<C
        · have hqt:q=t:=bQ1 fun hne=>by
            have h4:=h3 q (zB1 q) (by omega);have h5:=hE.rise q t (by omega) (by omega);omega
          subst hqt;refine ⟨q+1,zB1 _,fun i hi => ?_,fun i h4 h5=>by omega⟩;by_cases e:i=q
          · subst e;exact hpt
          · exact h2 i (by omega)
        · refine ⟨q,by omega,h2,fun i h4 h5 => ?_⟩;by_cases e:i=t
          · subst e;omega
          · exact h3 i h4 (by omega)
    exact key k (zB1 k)
  have hEq:Ech n C E q p:=by
    have hle:=hE.le;refine ⟨by omega,fun i j hi hj=>hE.rise i j hi (by omega),hq2,fun i hi=>hE.one i (by omega),fun i hi j hj=>hE.lead i (by omega) j hj,fun i h1 h2 j hj => ?_⟩;by_cases hik:i<k
    · exact hE.lead i hik j (by have:=hq3 i h1 hik;omega)
    · exact hE.rest i (by omega) h2 j (by omega)
  have hRq:Red n E q p 0:=fun a h1 h2 i h3 h4=>hR a h1 (by omega) i h3 h4
  have hKq:zE4 n C A E:=fun x=>by
    have e:∀ (M:Nat->Nat->Rat) i,zC0 (C+m) (fun j=>M i j*(if j<C then x j else 0))=zC0 C (fun j=>M i j*x j):=fun M i=>by
      rw [qP6 (n:=C) (C+m) (by omega) (fun j h1 h2=>by rw [if_neg (by omega),Rat.mul_zero])];exact zF2 fun j hj=>by rw [if_pos hj]
    have e1:∀ i,zC0 (C+m) (fun j=>zI7 C A B i j*(if j<C then x j else 0))=zC0 C (fun j=>A i j*x j):=fun i=>by
      rw [e];exact zF2 fun j hj=>by unfold zI7;rw [if_pos hj]
    constructor
    · intro h i hi;rw [<- e];exact (hK _).1 (fun r hr=>by rw [e1];exact h r hr) i hi
    · intro h i hi;rw [<- e1];exact (hK _).2 (fun r hr=>by rw [e];exact h r hr) i hi
  obtain ⟨e,_⟩:=yF8 hT hR' hEq hRq (hK'.symm.trans hKq);subst e
  constructor
  · intro h h2;have h3:=hq3 k' (zB1 _) h;have h4:=h2 k' h;omega
  · intro h;refine bQ1 fun hn=>h fun i hi=>hq2 i (by omega)
theorem ann_piv {n C k:Nat} {A T:Nat->Nat->Rat} {p:Nat->Nat} (hT:Ech n C T k p) (hR:Red n T k p 0) (hK:zE4 n C A T) {y:Nat->Rat} (hy:∀ i,i<k->zC0 n (fun l=>y l*A l (p i))=0):∀ j,j<C->zC0 n (fun l=>y l*A l j)=0:=by
  intro j hj;by_cases hf:∀ i,i<k->p i≠j
  · have h1:=(hK _).2 (zW6 hT hR hj hf);have h2:zC0 n (fun l=>y l*zC0 C (fun c=>A l c*nv T k p j c))=0:=zN3 fun l hl=>by rw [h1 l hl,Rat.mul_zero]
    rw [zF2 (g:=fun l=>zC0 C (fun c=>y l*A l c*nv T k p j c)) (fun l hl=>by
      rw [<- zJ4];exact zF2 fun c _=>by grind),qG3] at h2
    have h3:∀ c,c<C->zC0 n (fun l=>y l*A l c*nv T k p j c)=nv T k p j c*zC0 n (fun l=>y l*A l c):=fun c hc=>by
      rw [<- zJ4];exact zF2 fun l _=>by grind
    rw [zF2 h3, zK7 (a := j) hj (fun c hc hne=>by
      by_cases hfc:∀ i,i<k->p i≠c
      · rw [zZ0 hne hfc,Rat.zero_mul]
      · obtain ⟨i,hi,hpc⟩:∃ i,i<k/\p i=c:=bQ1 fun h=>hfc fun i hi e=>h ⟨i,hi,e⟩;subst hpc;rw [hy i hi,Rat.mul_zero]),zS7,Rat.one_mul] at h2
    exact h2
  · obtain ⟨i,hi,hpc⟩:∃ i,i<k/\p i=j:=bQ1 fun h=>hf fun i hi e=>h ⟨i,hi,e⟩;subst hpc;exact hy i hi
theorem yO1 {k:IntKind} {B:Nat} {w:World} {ps:List Elt} (h:∀ p∈ps,IsE k B w p):∀ p∈ps,p.2.1.oneCell'=true/\p.2.2.oneCell'=true:=fun p hp=>by
 obtain ⟨⟨A,c,e,_⟩,D,d,e',_⟩:=h p hp;rw [e,e'];exact ⟨rfl,rfl⟩
def RetTP (T:List (List Rat)) (w:World) (e:Ending) (w':World):Prop:=∃ V,e=.returned V/\SlT .i64 10000 w' V T/\Below w.heap.size w w'
theorem jO (a0 a1:Value) (A B:List (List Rat)) (w:World) (h0:SlT .i64 10000 w a0 A) (h1:SlT .i64 10000 w a1 B) (hc:Hid ((A.length=B.length/\A.length<=200)/\(∀ r∈A,r.length<=1000) /\ ∀ r∈B,r.length<=1000)) :
  Calls prog 44 #[a0,a1] w (RetTP (zD4 A B) w):=by
 obtain ⟨n,hn⟩:∃ n,n=A.length:=⟨_,rfl⟩;obtain ⟨A0,c0,rfl,hc0,hm0⟩:=h0.shape;obtain ⟨A1,c1,rfl,hc1,hm1⟩:=h1.shape;have hBl:B.length=n:=by rw [hn];exact hc.out.1.1.symm
 have hn2:n<=200:=by rw [hn];exact hc.out.1.2
 rw [<- hn] at h0 hc0;rw [hBl] at h1 hc1;unfold maxLen at hm0 hm1;have HS0:=hQ9 h0;have HS1:=hQ9 h1;have HN:=hQ9 (zA hn hBl);have HJ:Hid ((zD4 A B).length=n):=by show _=_;rw [jA3 hc.out.1.1,hn]
 clear h0 h1
 go_enter func44,ntmps44
 rw [<- hn,hBl];clear hn hBl;have ba5:=zC6 (w:=w) (zB1 _) (.cells #[] 45);have TG5:TabG (w.alloc (.cells #[] 45)) w.heap.size (.slice (some ⟨w.heap.size,0,none⟩) 0 0) [] ((zD4 A B).take 0):=⟨qP9 zH6 w w.heap.size 45 (zB1 _),by simp,fun i u r hu=>by simp at hu⟩;go_wp2
 go_loopw [5,6] (fun v5 v6 wr => ∃ (i:Nat) (us:List Value),i<=n/\TabG wr w.heap.size v5 us ((zD4 A B).take i)/\Hid (Below w.heap.size w wr)/\v6=.int .i64 (i:Int)) (fun _ v6 _=>n-(intOf v6).toNat)
 case atStart=>exact ⟨0,[],by omega,TG5,ba5,rfl⟩
 case round =>
  clear TG5 ba5;obtain ⟨i,us,hi,TG,HB,rfl⟩:=hrel;obtain ⟨wi,hwi⟩:∃ wi,wi=wr:=⟨_,rfl⟩;subst hwi;obtain ⟨A5,c5,e5⟩:=zD.slice TG.row.1;subst e5;by_cases hlt:i<n
  ·obtain ⟨p,hp⟩:∃ p,A[i]?=some p:=⟨_,zA3 (by rw [<- HN.out.1];exact hlt)⟩;obtain ⟨q,hq⟩:∃ q,B[i]?=some q:=⟨_,zA3 (by rw [HN.out.2];exact hlt)⟩;have k0:=HS0.out.bQ HB.out;have k1:=HS1.out.bQ HB.out;obtain ⟨ad0,rfl⟩:=k0.place (fun e=>by rw [e] at hp;cases hp);obtain ⟨ad1,rfl⟩:=k1.place (fun e=>by rw [e] at hq;cases hq);obtain ⟨Ap,cp,hip,ecp,sp⟩:=k0.at2 hp;obtain ⟨Aq,cq,hiq,ecq,sq⟩:=k1.at2 hq;obtain ⟨pp,hpm,VP,EP⟩:=sp;obtain ⟨qq,hqm,VQ,EQ⟩:=sq;obtain ⟨-,-,-,hlp,hmp,-⟩:=id VP;have HJK:Hid ((zD4 A B).take (i+1)=(zD4 A B).take i ++ [p ++ q]):=jL2 (qP7 hp hq);have hppl:pp.length=p.length:=by rw [<- hpm,zA9]
   have hqql:qq.length=q.length:=by rw [<- hqm,zA9]
   have hpl:pp.length<=1000000000:=by have:=hc.out.2.1 p (zA5 hp);omega
   have hql:qq.length<=1000000000:=by have:=hc.out.2.2 q (zA5 hq);omega
   have hpl3:([] ++ pp:List Elt).length<=1000000000:=by rw [List.nil_append];exact hpl
   have bd:=(Below.refl wi.heap.size wi).drew;obtain ⟨wL,hwL,bL0,BL,hsL⟩:=zK4 wi.drew 65 #[]
   have RL:zD0 65 wL wi.heap.size (.slice (some ⟨wi.heap.size,0,none⟩) 0 0) []:=by
    rw [<- hwL];exact qF7 65 wi.drew wi.drew.heap.size (zB1 _)
   have bL:Below wi.heap.size wi wL:=bd.trans (bL0.mono bd.size);have ecpd:=(bd.cell (bQ0 wi _ ecp)).trans ecp;have ecqd:=(bd.cell (bQ0 wi _ ecq)).trans ecq;have ecpL:=(bL.cell (bQ0 wi _ ecp)).trans ecp;have ecqL:=(bL.cell (bQ0 wi _ ecq)).trans ecq;have VPL:=VP.bQ bL;have one1:=yO1 EP;have zG8:=yO1 EQ;have hbL:wi.heap.size<=wL.heap.size:=bL.size;have HEE:=hQ9 (zA EP EQ);have HVQ:=hQ9 VQ;have HTG:=hQ9 TG;have HPM:=hQ9 (zA hpm hqm)
   have hlu:us.length+1<=1000000000:=by
    have h1:=TG.len;rw [bQ7] at h1;omega
   clear k0 k1 ecp ecq VP VQ EP EQ TG hp hq hpm hqm BL bL0 hppl hqql;go_upto_region 5 with (fail)
   go_region_law (first
    | (refine qW0 rfl (.tmp 15) (.tmp 19) rfl underlying45 zY7 rfl RL rfl VPL one1 (by simp) hpl hbL ?_;intro v8 w8 RF8 b8 HK8;obtain ⟨A8,c8,e8,-⟩:=RF8.isVF;obtain ⟨m8,hm8⟩:∃ m8,m8=([] ++ pp).length:=⟨_,rfl⟩;rw [<- hm8] at e8;clear hm8;subst e8;have b08:=bL.trans b8;have ecq8:=(b08.cell (bQ0 wi.drew _ ecqd)).trans ecqd;have VQ8:=HVQ.out.bQ b08;have hb8:wi.heap.size<=w8.heap.size:=b08.size)
    | (refine qW0 rfl (.tmp 20) (.tmp 24) rfl underlying45 zY7 rfl RF8 rfl VQ8 zG8 hpl3 hql hb8 ?_;intro v9 w9 RF9 b9 HK9;obtain ⟨A9,c9,e9,-⟩:=RF9.isVF;obtain ⟨m9,hm9⟩:∃ m9,m9=(([] ++ pp) ++ qq).length:=⟨_,rfl⟩;rw [<- hm9] at e9;clear hm9;subst e9;have b09:=b08.trans b9;obtain ⟨w10,hw10,b10,B10,h10⟩:=zK4 w9 45 #[.slice A9 m9 c9];have hone10:=cell_one_new w9 (.slice A9 m9 c9) 45;rw [hw10] at hone10;have b010:=b09.trans (b10.mono b09.size);have TG10:=HTG.out.bQ b010;have hb10:w.heap.size<=w10.heap.size:=zB2 HB.out.size b010.size)
    | (refine jL1 rfl (.tmp 14) (.tmp 26) rfl underlying23 qV8 rfl TG10.row rfl rfl (by decide) hone10 (fun u hu=>by (obtain rfl:=List.mem_singleton.1 hu;exact ⟨_,_,_,rfl⟩)) hlu hb10 ?_;intro v11 w11 RX11 HG11 HX11))
   all_goals
    have SR9:SlF .i64 10000 w9 (.slice A9 m9 c9) (p ++ q):=⟨([] ++ pp) ++ qq,by rw [List.nil_append,bX5,HPM.out.1,HPM.out.2],RF9.isVF,fun x hx=>by
     rw [List.nil_append] at hx;rcases List.mem_append.1 hx with hx | hx
     ·exact (HEE.out.1 x hx).bQ b09
     ·exact (HEE.out.2 x hx).bQ b09⟩
    have SR10:=SR9.bQ b10;have TG11:=TG10.snoc RX11 HG11.out SR10;have B10':=HB.out.trans (b010.mono HB.out.size);have HB11:Hid (Below w.heap.size w w11):=B10'.grown HG11.out B10'.size (fun g hg=>TG10.row.1.base_le g hg);rw [<- HJK.out] at TG11;clear SR9 SR10 TG10 B10' RF8 RF9 b8 b9 HK8 HK9 b08 b09 b010 b10 B10 hone10 VQ8 ecq8 RX11 HG11 HX11 VPL RL bL ecpd ecqd ecpL ecqL;go_wp2;go_roundw;case rel=>exact ⟨i+1,us ++ [_],by omega,TG11,HB11,by go_num⟩
    case measure=>simp [intOf];omega
  ·have hS:SlT .i64 10000 wi (.slice A5 us.length c5) (zD4 A B):=by
    have h:=TG.slT;rwa [zA7 (by have:=HJ.out;omega)] at h
   have HS:=hQ9 hS;clear hS TG;go_wp2;go_ret;exact ⟨_,rfl,HS.out,HB.out⟩
structure Few4 (A:List (List Rat)):Prop where
 len:A.length<=4
 row:∀ r∈A,r.length<=4
 lens:zE0 A 1
theorem Few4.wide {A:List (List Rat)} (h:Few4 A):zC A<=4:=yM1 h.row
theorem jO0 {A B:List (List Rat)} (h:Few4 A) (k:Few4 B):∀ r∈zD4 A B,r.length<=8:=fun r hr=>by
 obtain ⟨p,hp,q,hq,rfl⟩:=qV9 hr
 have:=h.row p hp
 have:=k.row q hq
 rw [zA8];omega
def qI8 (T:List (List Rat)):Prop:=∀ r∈T,∀ x∈r,x=0
theorem yO2 {x:Rat} : zJ3 x.num 0=0 ↔ x=0:=by
 rw [<- Rat.num_eq_zero];unfold zJ3
 constructor
 ·intro h
  split at h
  ·omega
  ·split at h<;>omega
 ·intro h;rw [h];simp
theorem yO3 (a0:Value) (T:List (List Rat)) (b:Bool) (w:World) (h0:SlT .u64 4294967296 w a0 T) (hb:b=true ↔ qI8 T) (hc:Hid (T.length<=1000 /\ ∀ r∈T,r.length<=1000)):Calls prog 93 #[a0] w (zD3 (.bool b) w):=by
  have HB:=hQ9 hb;have HS:=hQ9 h0;obtain ⟨A0,c0,rfl,hc0,hm0⟩:=h0.shape;obtain ⟨n,hn⟩:∃ n,n=T.length:=⟨_,rfl⟩;have hn1:n<=1000:=by rw [hn];exact hc.out.1
  have HN:=hQ9 hn;rw [<- hn] at HS hc0 |-;unfold maxLen at hm0;clear hb h0 hn
  go_enter func93,ntmps93
  go_wp2
  go_loopw [7] (fun v7 wr => ∃ k:Nat,k<=n/\Hid (Below w.heap.size w wr)/\Hid (∀ i r,i<k->T[i]?=some r -> ∀ x∈r,x=0)/\v7=.int .i64 (k:Int)) (fun v7 _=>n-(intOf v7).toNat)
  case atStart=>exact ⟨0,by omega,Below.refl _ _,fun i r h=>by omega,rfl⟩
  case round =>
    obtain ⟨k,hk,HBk,HZ,rfl⟩:=hrel;obtain ⟨wo,hwo⟩:∃ wo,wo=wr:=⟨_,rfl⟩;subst hwo;by_cases hlt:k<n
    · obtain ⟨r, hr⟩ : ∃ r, T[k]? = some r := ⟨_, zA3 (by rw [<- HN.out]; exact hlt)⟩;obtain ⟨ad,rfl⟩:=HS.out.place (fun e => by rw [e] at hr; cases hr);have kw:=HS.out.bQ HBk.out;obtain ⟨Ar,cr,hin,ecr,-⟩:=kw.at2 hr;obtain ⟨m,hm⟩ : ∃ m,m = r.length:=⟨_,rfl⟩;have hm1 : m <= 1000:=by rw [hm]; exact hc.out.2 r (zA5 hr)
      rw [<- hm] at ecr;have HM:=hQ9 hm;have HR:=hQ9 hr;have HE:=hQ9 ecr;clear kw hr hm;go_wp2
      go_loopw [15] (fun v15 wr => ∃ j:Nat,j<=m/\Hid (Below wo.heap.size wo wr)/\Hid (∀ i x,i<j->r[i]?=some x->x=0)/\v15=.int .i64 (j:Int)) (fun v15 _=>m-(intOf v15).toNat)
      case atStart=>exact ⟨0,by omega,Below.refl _ _,fun i x h=>by omega,rfl⟩
      case round =>
        clear ecr;obtain ⟨j,hj,HBj,HZj,rfl⟩:=hrel;obtain ⟨wi,hwi⟩:∃ wi,wi=wr:=⟨_,rfl⟩;subst hwi;have HBw:Hid (Below w.heap.size w wi):=HBk.out.trans (HBj.out.mono HBk.out.size);by_cases hjm:j<m
        · obtain ⟨x,hx⟩:∃ x,r[j]?=some x:=⟨_,zA3 (by rw [<- HM.out];exact hjm)⟩;obtain ⟨Ar',cr',hin',ecr',sr⟩:=(HS.out.bQ HBw.out).at2 HR.out;have ec2:=(HBj.out.cell (bQ0 wo _ HE.out)).trans HE.out;rw [ec2] at ecr';injection ecr' with ecr';injection ecr' with e1 e2 e3;subst e1;subst e3;clear e2;rw [<- HM.out] at sr;obtain ⟨g,o,u,t,rfl,him,p0,p1,p2,su,st⟩:=sr.at_ hx;obtain ⟨Au,cu,rfl,_⟩:=id su;obtain ⟨At,ct,rfl,_⟩:=id st;have hix:=fun w=>zG6 (P:=prog) underlying44 (by kernel_rfl) (g:=g) (o:=o) (c:=cr) him w;have HX:=hQ9 hx;have kq:IsQ wi (.agg #[.bool (ngB x.num),.slice Au (digs 4294967296 x.num.natAbs).length cu,.slice At (digs 4294967296 x.den).length ct]) x:=⟨_,_,rfl,su,st⟩;by_cases hx0:x=0
          · have CS:=zR6 _ x 0 wi kq (yO2.2 hx0).symm
            have HZ2:Hid (∀ i x,i<j+1->r[i]?=some x->x=0):=fun i y hi hy=>by
              by_cases e:i=j
              · subst e;rw [HX.out] at hy;injection hy with hy;rw [<- hy];exact hx0
              · exact HZj.out i y (by omega) hy
            clear hx0 hx su st kq sr HZj;go_wp2_with fail
            refine CS.mono ?_;rintro e w2 ⟨rfl,b2⟩;have HB2:Hid (Below wo.heap.size wo w2):=HBj.out.trans (b2.mono HBj.out.size);clear CS b2 p0 p1 p2 ec2;go_wp2;go_roundw;case rel=>exact ⟨j+1,by omega,HB2,HZ2,by go_num⟩
            case measure=>simp [intOf];omega
          · obtain ⟨q,hq⟩:∃ q,q=zJ3 x.num 0:=⟨_,rfl⟩;have hq0:(q == 0)=false:=by rw [beq_eq_false_iff_ne,hq];exact fun e=>hx0 (yO2.1 e)
            have CS:=zR6 _ x q wi kq hq;obtain rfl:b=false:=Bool.eq_false_iff.2 fun h=>hx0 (HB.out.1 h r (zA5 HR.out) x (zA5 HX.out));clear hx0 hx su st kq sr HZj hq
            go_wp2_with fail
            refine CS.mono ?_;rintro e w2 ⟨rfl,b2⟩;have HB2:Hid (Below w.heap.size w w2):=HBw.out.trans (b2.mono HBw.out.size);clear CS b2 p0 p1 p2 ec2;go_wp2;go_ret;exact ⟨rfl,HB2.out⟩
        · have HZ2:Hid (∀ i r',i<k+1->T[i]?=some r' -> ∀ x∈r',x=0):=fun i r' hi hr' x hx=>by
            by_cases e:i=k
            · subst e;rw [HR.out] at hr';injection hr' with hr';subst hr';obtain ⟨l,hl⟩:=List.mem_iff_getElem?.1 hx;exact HZj.out l x (by have:=(zA4.1 hl).1;have:=HM.out;omega) hl
            · exact HZ.out i r' (by omega) hr' x hx
          clear HZj;go_wp2;go_roundw;case rel=>exact ⟨k+1,by omega,HBw,HZ2,by go_num⟩
          case measure=>simp [intOf];omega
    · obtain rfl:b=true:=HB.out.2 fun r hr x hx=>by
        obtain ⟨i,hi⟩:=List.mem_iff_getElem?.1 hr;exact HZ.out i r (by have:=(zA4.1 hi).1;have:=HN.out;omega) hi x hx
      go_wp2;go_ret;exact ⟨rfl,HBk.out⟩
def zH2 (C:Nat) (ps:List Nat):List Nat:=(List.range C).filter fun j => !(decide (j∈ps))
theorem yO4 {C:Nat} {ps:List Nat} (h:C∈ps):zH2 (C+1) ps=zH2 C ps:=by
 unfold zH2;rw [List.range_succ,List.filter_append];simp [h]
theorem yO5 {C:Nat} {ps:List Nat} (h:¬ C∈ps):zH2 (C+1) ps=zH2 C ps ++ [C]:=by
 unfold zH2;rw [List.range_succ,List.filter_append];simp [h]
theorem qX3 (C:Nat) (ps:List Nat):(zH2 C ps).length<=C:=by
 unfold zH2;have h:=List.length_filter_le (fun j => !(decide (j∈ps))) (List.range C);rw [List.length_range] at h;exact h
theorem jO1 (a1:Value) (C:Nat) (ps:List Nat) (w:World) (h1:PvI w a1 ps) (hc:C<=1000/\ps.length<=1000):Calls prog 48 #[.int .i64 (C:Int),a1] w (fun e w' => ∃ v,e=.returned v/\zC8 isI w' w.heap.size 3 v (pI (zH2 C ps))/\Below w.heap.size w w'):=by
 have HP:=hQ9 h1;obtain ⟨A1,c1,rfl,-⟩:=id h1;clear h1
 go_enter func48,ntmps48
 go_wp2
 go_loopw [5,8] (fun v5 v8 wr => ∃ k:Nat,k<=C/\zC8 isI wr w.heap.size 3 v5 (pI (zH2 k ps))/\Hid (Below w.heap.size w wr)/\v8=.int .i64 (k:Int)) (fun _ v8 _=>C-(intOf v8).toNat)
 case atStart=>exact ⟨0,by omega,qW3 isI w w.heap.size 3,Below.refl _ _,rfl⟩
 case round =>
  obtain ⟨k,hk,RX,HB,rfl⟩:=hrel;obtain ⟨wi,hwi⟩:∃ wi,wi=wr:=⟨_,rfl⟩;subst hwi;obtain ⟨A5,c5,e5⟩:=zD.slice RX.1;subst e5;by_cases hlt:k<C
  ·have CC:=qW6 _ ps k wi (HP.out.bQ HB.out) hc.2;by_cases hin:k∈ps
   ·rw [decide_eq_true hin] at CC;have RX2:=RX;have HF:Hid (zH2 (k+1) ps=zH2 k ps):=yO4 hin;clear hin
    go_wp2_with fail
    refine CC.mono ?_;rintro e w2 ⟨rfl,b2⟩;have RX3:zC8 isI w2 w.heap.size 3 (.slice A5 (pI (zH2 k ps)).length c5) (pI (zH2 (k+1) ps)):=by rw [HF.out];exact RX2.bQ b2
    have HB2:Hid (Below w.heap.size w w2):=HB.out.trans (b2.mono HB.out.size);clear RX RX2 CC b2;go_wp2;go_roundw;case rel=>exact ⟨k+1,by omega,RX3,HB2,by go_num⟩
    case measure=>simp [intOf];omega
   ·rw [decide_eq_false hin] at CC;have HF:Hid (zH2 (k+1) ps=zH2 k ps ++ [k]):=yO5 hin;clear hin
    go_wp2_with fail
    refine CC.mono ?_;rintro e w2 ⟨rfl,b2⟩;have HB2:Hid (Below w.heap.size w w2):=HB.out.trans (b2.mono HB.out.size);have RX2:=RX.bQ b2;obtain ⟨w3,hw3,b3,B3,h3⟩:=zK4 w2 3 #[.int .i64 (k:Int)];have RX3:=RX2.bQ b3;have hone:=cell_one_new w2 (.int .i64 (k:Int)) 3;rw [hw3] at hone;have HB3:Hid (Below w.heap.size w w3):=HB2.out.trans (b3.mono HB2.out.size);have hb3:=HB3.out.size;have hlu:(pI (zH2 k ps)).length+1<=1000000000:=by rw [zN5];have:=qX3 k ps;omega
    clear RX RX2 CC b2 b3 B3
    go_wp2_with (at_builtin;refine qH7 rfl (.tmp 15) (.tmp 17) rfl underlying36 info_int rfl RX3 rfl rfl (by decide) hone (fun u hu=>by (obtain rfl:=List.mem_singleton.1 hu;exact ⟨_,rfl⟩)) hlu hb3 ?_;intro v4 w4 RX4 HG4 HX4)
    rw [qP,<- HF.out] at RX4;have HB4:Hid (Below w.heap.size w w4):=HB3.out.grown HG4.out HB3.out.size (fun g hg=>RX3.1.base_le g hg);clear RX3 hone HG4 HX4;go_wp2;go_roundw;case rel=>exact ⟨k+1,by omega,RX4,HB4,by go_num⟩
    case measure=>simp [intOf];omega
  ·obtain rfl:k=C:=by omega
   have HR:=hQ9 RX;clear RX;go_wp2;go_ret;exact ⟨_,rfl,HR.out,HB.out⟩
def zM6 (r:List Rat) (ps:List Nat):List Rat:=ps.map fun j=>r.getD j 0
def zI3 (T:List (List Rat)) (ps:List Nat):List (List Rat):=T.map fun r=>zM6 r ps
theorem qX4 (T:List (List Rat)) (ps:List Nat):(zI3 T ps).length=T.length:=by unfold zI3;rw [zA9]
theorem yO6 {T:List (List Rat)} {ps:List Nat} {i:Nat} {r:List Rat} (h:T[i]?=some r):(zI3 T ps)[i]?=some (zM6 r ps):=by unfold zI3;rw [bQ8,h];rfl
theorem yO7 (r:List Rat) (ps:List Nat):(zM6 r ps).length=ps.length:=by unfold zM6;rw [zA9]
theorem jO2 {r:List Rat} {ps:List Nat} {j:Nat} {x:Rat} (hj:j<ps.length) (hx:r[pv ps j]?=some x):zM6 r (ps.take (j+1))=zM6 r (ps.take j) ++ [x]:=by
 have hp:ps[j]?=some (pv ps j):=by
  unfold pv;rw [zA6,zA3 hj]
  rfl
 unfold zM6;rw [bQ9,hp,bX5]
 congr 1
 show [r.getD (pv ps j) 0]=[x]
 rw [zA6,hx]
 rfl
def zR0 (D:List (List Rat)) (n k:Nat) (r:List Rat):List (List Rat):=D.take k ++ r :: zB (n-k-1) []
theorem midT_at {D:List (List Rat)} {n k:Nat} {r:List Rat} (h:D.length=n) (hk:k<n):(zR0 D n k r)[k]?=some r:=by
 unfold zR0;have hl:(D.take k).length=k:=by rw [bQ7];omega
 rw [bW0 (by omega),hl,Nat.sub_self]
 rfl
theorem jO3 {D:List (List Rat)} {n k:Nat} {r s:List Rat} (h:D.length=n) (hk:k<n):(zR0 D n k r).set k s=zR0 D n k s:=by
 unfold zR0;have hl:(D.take k).length=k:=by rw [bQ7];omega
 rw [List.set_append_right _ _ (by omega),hl,Nat.sub_self]
 rfl
theorem jO4 {D:List (List Rat)} {n k:Nat} (hk:k<n):D.take k ++ zB (n-k) []=zR0 D n k []:=by
 unfold zR0;rw [show n-k=(n-k-1)+1 by omega,List.replicate_succ,show n-k-1+1-1=n-k-1 by omega]
theorem jO5 {D:List (List Rat)} {n k:Nat} {r:List Rat} (hr:D[k]?=some r):zR0 D n k r=D.take (k+1) ++ zB (n-(k+1)) []:=by
 unfold zR0;rw [bQ9,hr,List.append_assoc,show n-k-1=n-(k+1) by omega]
 rfl
theorem jO6 (a0 a1:Value) (T:List (List Rat)) (ps:List Nat) (w:World) (h0:SlT .u64 4294967296 w a0 T) (h1:PvI w a1 ps) (hc:Hid ((T.length<=200/\ps.length<=200) /\ ∀ r∈T,∀ i,i<ps.length->pv ps i<r.length)) :
    Calls prog 50 #[a0,a1] w (fun e w' => ∃ v,e=.returned v/\SlT .u64 4294967296 w' v (zI3 T ps)/\Below w.heap.size w w'):=by
  obtain ⟨n,hn⟩:∃ n,n=T.length:=⟨_,rfl⟩;obtain ⟨q,hq⟩:∃ q,q=ps.length:=⟨_,rfl⟩;obtain ⟨A0,c0,rfl,hc0,hm0⟩:=h0.shape;obtain ⟨A1,c1,rfl,hcell1⟩:=id h1;have hn2:n<=200:=by rw [hn];exact hc.out.1.1
  have hq2:q<=200:=by rw [hq];exact hc.out.1.2
  rw [<- hn] at h0 hc0;rw [<- hq] at h1 hcell1;unfold maxLen at hm0;have HS0:=hQ9 h0;have HC1:=hQ9 hcell1;have HN:=hQ9 (zA hn hq);obtain ⟨mk,hmk⟩:=Classical.axiomOfChoice (fun w=>qH2 (P:=prog) (w:=w) underlying22 qH6 n (by omega));have hmk1:=fun w=>(hmk w).1;have HMK:=hQ9 (fun w=>(hmk w).2);obtain ⟨D,hD⟩:∃ D,D=zI3 T ps:=⟨_,rfl⟩;have HD:=hQ9 hD;have HDL:Hid (D.length=n):=by show _=_;rw [hD,qX4,hn]
  clear hmk h0 h1 hcell1 hD
  go_enter func50,ntmps50
  rw [<- hn,<- hq];clear hn hq;obtain ⟨tb,bm⟩:=HMK.out w
  have TR0:zP6 (mk w) w.heap.size (.slice (some ⟨w.heap.size,0,none⟩) n n) (zB n (.slice none 0 0)) (zB n []):=by
    refine ⟨tb.rowV (by rw [bW7]) (zB1 _) (by omega),by rw [bW7,bW7],fun i u r hu hr => ?_,fun u hu r hr x hx => ?_,fun r hr x hx => ?_,fun i j u v hij hu hv g hg => ?_⟩
    · obtain rfl:=(List.mem_replicate.1 (zA5 hu)).2;obtain rfl:=(List.mem_replicate.1 (zA5 hr)).2;exact qS7 _ _ _
    · obtain rfl:=(List.mem_replicate.1 hr).2;cases hx
    · obtain rfl:=(List.mem_replicate.1 hr).2;cases hx
    · obtain rfl:=(List.mem_replicate.1 (zA5 hu)).2;cases hg
  have HV0:Hid (zE (zB n ([]:List Elt))=D.take 0 ++ zB (n-0) []):=by
    show _=_
    rw [bX6,List.nil_append,Nat.sub_zero];unfold zE;rw [List.map_replicate]
    rfl
  have HB0:Hid (Below w.heap.size w (mk w)):=bm;clear tb bm HMK;go_wp2
  go_loopw [14] (fun v14 wr => ∃ (k:Nat) (us:List Value) (pss:List (List Elt)),k<=n/\zP6 wr w.heap.size (.slice (some ⟨w.heap.size,0,none⟩) n n) us pss/\Hid (zE pss=D.take k ++ zB (n-k) [])/\Hid (Below w.heap.size w wr)/\v14=.int .i64 (k:Int)) (fun v14 _=>n-(intOf v14).toNat)
  case atStart=>exact ⟨0,_,_,by omega,TR0,HV0,HB0,rfl⟩
  case round =>
    clear TR0 HV0 HB0 hmk1;obtain ⟨k,us,pss,hk,TR,HV,HB,rfl⟩:=hrel;obtain ⟨wo,hwo⟩:∃ wo,wo=wr:=⟨_,rfl⟩;subst hwo;by_cases hlt:k<n
    · obtain ⟨r, hr⟩ : ∃ r, T[k]? = some r := ⟨_, zA3 (by rw [<- HN.out.1]; exact hlt)⟩;obtain ⟨ad0,rfl⟩:=HS0.out.place (fun e => by rw [e] at hr; cases hr);have HR:=hQ9 hr
      have HV1:Hid (zE pss=zR0 D n k (zM6 r (ps.take 0))):=by
        show _=_
        rw [HV.out,jO4 hlt]
        rfl
      clear hr;go_wp2
      go_loopw [19] (fun v19 wr => ∃ (j:Nat) (us:List Value) (pss:List (List Elt)),j<=q/\zP6 wr w.heap.size (.slice (some ⟨w.heap.size,0,none⟩) n n) us pss/\Hid (zE pss=zR0 D n k (zM6 r (ps.take j)))/\Hid (Below w.heap.size w wr)/\v19=.int .i64 (j:Int)) (fun v19 _=>q-(intOf v19).toNat)
      case atStart=>exact ⟨0,us,pss,by omega,TR,HV1,HB,rfl⟩
      case round =>
        clear TR HV1 HB HV;obtain ⟨j,us,pss,hj,TR,HV,HB,rfl⟩:=hrel;obtain ⟨wi,hwi⟩:∃ wi,wi=wr:=⟨_,rfl⟩;subst hwi;by_cases hjq:j<q
        · have hlr:pv ps j<r.length:=hc.out.2 r (zA5 HR.out) j (by rw [<- HN.out.2];exact hjq);obtain ⟨x,hx⟩:∃ x,r[pv ps j]?=some x:=⟨_,zA3 hlr⟩;obtain ⟨d,hd⟩:∃ d,d=pv ps j:=⟨_,rfl⟩;rw [<- hd] at hx hlr;obtain ⟨ad1,rfl,ec1⟩:=HC1.out j hjq;rw [<- hd] at ec1;have HNX:Hid (zM6 r (ps.take (j+1))=zM6 r (ps.take j) ++ [x]):=jO2 (by rw [<- HN.out.2];exact hjq) (by rw [<- hd];exact hx);obtain ⟨Ar,cr,hin,ecr,sr⟩:=HS0.out.at2 HR.out;obtain ⟨g,o,u,t,rfl,him,p0,p1,p2,su,st⟩:=sr.at_ hx;obtain ⟨Au,cu,rfl,_⟩:=id su;obtain ⟨At,ct,rfl,_⟩:=id st;have hvk:(zE pss)[k]?=some (zM6 r (ps.take j)):=by rw [HV.out];exact midT_at HDL.out hlt
          have hkp:k<pss.length:=by
            have h:=(zA4.1 hvk).1;unfold zE at h;rwa [zA9] at h
          obtain ⟨pp,hpp⟩:∃ pp,pss[k]?=some pp:=⟨_,zA3 hkp⟩
          have hppv:pp.map (·.1)=zM6 r (ps.take j):=by
            have h2:=qV5 hpp;rw [hvk] at h2;exact (Option.some.inj h2).symm
          obtain ⟨uk,huk⟩:∃ uk,us[k]?=some uk:=⟨_,zA3 (by rw [TR.len];exact hkp)⟩;have hown:=TR.own k uk pp huk hpp;obtain ⟨Ak,ck,eu,hck⟩:=hown.isVF;subst eu;have bw:=HB.out.drew;have bd:=(Below.refl wi.heap.size wi).drew;have f1:=(bw.cell (bQ0 w _ ec1)).trans ec1;have f1i:=(HB.out.cell (bQ0 w _ ec1)).trans ec1;have fr:=(bw.cell (bQ0 w _ ecr)).trans ecr;have q0:=(bw.cell (bQ0 w _ p0)).trans p0;have q1:=(bw.cell (bQ0 w _ p1)).trans p1;have q2:=(bw.cell (bQ0 w _ p2)).trans p2;have hcell:wi.drew.cell? ⟨w.heap.size,k,none⟩=some (.slice Ak pp.length ck):=TR.cell huk;have hix:=fun w=>zG6 (P:=prog) underlying44 (by kernel_rfl) (g:=g) (o:=o) (c:=cr) him w;obtain ⟨wL,hwL,bL0,-,-⟩:=zK4 wi.drew 83 #[.bool (ngB x.num),.slice Au (digs 4294967296 x.num.natAbs).length cu,.slice At (digs 4294967296 x.den).length ct];have bL:Below wi.heap.size wi wL:=bd.trans (bL0.mono bd.size)
          have VL:zN1 wL (.slice (some ⟨wi.heap.size,0,none⟩) 1 1) [(x,.slice Au (digs 4294967296 x.num.natAbs).length cu,.slice At (digs 4294967296 x.den).length ct)]:=by
            have hB:=Blk.new wi.drew 83 #[.bool (ngB x.num),.slice Au (digs 4294967296 x.num.natAbs).length cu,.slice At (digs 4294967296 x.den).length ct];rw [<- hwL];refine ⟨some ⟨wi.heap.size,0,none⟩,1,rfl,zB1 _,by unfold maxLen;omega,fun i p hp => ?_⟩;rcases i with _ | i
            · obtain rfl:(x,_,_)=p:=by simpa using hp
              exact ⟨_,_,rfl,hB.cell 0,hB.cell 1,hB.cell 2⟩
            · simp at hp
          have TRL:=TR.bQ bL;have hownL:=hown.bQ bL;have hcellL:wL.cell? ⟨w.heap.size,k,none⟩=some (.slice Ak pp.length ck):=TRL.cell huk
          have one1:∀ p∈([(x,.slice Au (digs 4294967296 x.num.natAbs).length cu,.slice At (digs 4294967296 x.den).length ct)]:List Elt),p.2.1.oneCell'=true/\p.2.2.oneCell'=true:=fun p hp=>by
            obtain rfl:=List.mem_singleton.1 hp;exact ⟨rfl,rfl⟩
          have HBL:Hid (Below w.heap.size w wL):=HB.out.trans (bL.mono HB.out.size);have hbL:=HBL.out.size;have suL:=su.bQ HBL.out;have stL:=st.bQ HBL.out
          have HFA:Hid (∀ v∈us,Far v (.slice Au (digs 4294967296 x.num.natAbs).length cu)/\Far v (.slice At (digs 4294967296 x.den).length ct)):=fun v hv=>by
            obtain ⟨i,hi⟩:=List.mem_iff_getElem?.1 hv;obtain ⟨pi,hpi⟩:∃ pi,pss[i]?=some pi:=⟨_,zA3 (by rw [<- TR.len];exact (zA4.1 hi).1)⟩;have hb:=(TR.own i v pi hi hpi).base_le;exact ⟨su.farOld hb,st.farOld hb⟩
          have HFV:Hid (Far (.slice (some ⟨w.heap.size,0,none⟩) n n) (.slice Au (digs 4294967296 x.num.natAbs).length cu)/\Far (.slice (some ⟨w.heap.size,0,none⟩) n n) (.slice At (digs 4294967296 x.den).length ct)):=by
            have hb:∀ g,(Value.slice (some ⟨w.heap.size,0,none⟩) n n).ownBlock=some g->w.heap.size<=g:=fun g hg=>by
              obtain rfl:w.heap.size=g:=by simpa [Value.ownBlock] using hg
              exact zB1 _
            exact ⟨su.farOld hb,st.farOld hb⟩
          have hpl:pp.length<=1000000000:=by
            have h:=congrArg List.length hppv;rw [zA9,yO7,bQ7] at h
            have:=HN.out.2
            omega
          have HU:=hQ9 (zA huk (zA hpp hppv));have HTL:=hQ9 TRL;have HSL:=hQ9 (zA suL stL);clear TR TRL hown huk hpp hppv hvk hkp ecr ec1 p0 p1 p2 su st sr suL stL hd hx bw bd bL0;go_upto_region 8 with (fail)
          go_region_law (refine qW0 rfl (.tmp 28) (.tmp 36) rfl underlying44 zQ6 rfl hownL rfl VL one1 hpl (by simp) hbL ?_;intro v9 w9 RF9 b9 HK9;obtain ⟨A9,c9,e9,-⟩:=RF9.isVF;obtain ⟨m9,hm9⟩:∃ m9,m9=(pp ++ [((x,.slice Au (digs 4294967296 x.num.natAbs).length cu,.slice At (digs 4294967296 x.den).length ct):Elt)]).length:=⟨_,rfl⟩;rw [<- hm9] at e9;clear hm9;subst e9;have hVr:=HTL.out.mid (by decide) HU.out.1 HU.out.2.1 HK9.out;have hc9:=hVr.cellAt HU.out.1;have hf9:=hVr.frozenAt k)
          all_goals
            have hnew:zG3 .u64 4294967296 w9 (.slice A9 m9 c9) [(x,.slice Au (digs 4294967296 x.num.natAbs).length cu,.slice At (digs 4294967296 x.den).length ct)]:=fun p hp=>by
              obtain rfl:=List.mem_singleton.1 hp;have k1:=HK9.out.1 _ _ _ HSL.out.1 (HFA.out _ (zA5 HU.out.1)).1;have k2:=HK9.out.1 _ _ _ HSL.out.2 (HFA.out _ (zA5 HU.out.1)).2;exact ⟨⟨k1.1,k2.1⟩,k1.2,k2.2⟩
            have hT2:=HTL.out.put (by decide) HU.out.1 HU.out.2.1 RF9 HK9.out hnew (fun v hv p hp=>by obtain rfl:=List.mem_singleton.1 hp;exact HFA.out v hv) (fun p hp=>by obtain rfl:=List.mem_singleton.1 hp;exact HFV.out)
            have HV2:Hid (zE (pss.set k (pp ++ [((x,.slice Au (digs 4294967296 x.num.natAbs).length cu,.slice At (digs 4294967296 x.den).length ct):Elt)]))=zR0 D n k (zM6 r (ps.take (j+1)))):=by
              show _=_
              rw [qV4,HV.out,bX5,HU.out.2.2,HNX.out,jO3 HDL.out hlt]
              rfl
            have HB2:Hid (Below w.heap.size w (w9.setCell ⟨w.heap.size,k,none⟩ (.slice A9 m9 c9))):=(HBL.out.trans b9).setCell (p:=⟨w.heap.size,k,none⟩) (zB1 _) (.slice A9 m9 c9);clear RF9 HK9 hnew hVr hownL VL hcell hcellL b9 f1 f1i fr q0 q1 q2;go_wp2;go_roundw;case rel=>exact ⟨j+1,_,_,by omega,hT2,HV2,HB2,by go_num⟩
            case measure=>simp [intOf];omega
        · have HV2:Hid (zE pss=D.take (k+1) ++ zB (n-(k+1)) []):=by
            show _=_
            rw [HV.out,zA7 (by rw [<- HN.out.2];omega),jO5 (by rw [HD.out];exact yO6 HR.out)]
          clear HV;go_wp2;go_roundw;case rel=>exact ⟨k+1,us,pss,by omega,TR,HV2,HB,by go_num⟩
          case measure=>simp [intOf];omega
    · have hS:SlT .u64 4294967296 wo (.slice (some ⟨w.heap.size,0,none⟩) n n) D:=by
        have h:=TR.slT;rw [HV.out,show n-k=0 by omega,zA7 (by have:=HDL.out;omega)] at h;simpa using h
      have HS:=hQ9 hS;clear hS TR;go_wp2;go_ret;exact ⟨_,rfl,by rw [<- HD.out];exact HS.out,HB.out⟩
theorem yO8 {n C:Nat} {M:Nat->Nat->Rat} {ps:List Nat} (h:Ech n C M ps.length (pv ps)):∀ j:Nat,j<=C -> ∃ c,c<=ps.length/\(∀ i,i<c->pv ps i<j)/\(∀ i,c<=i->i<ps.length->j<=pv ps i)/\(frs ps j).length+c=j
  | 0,_=>⟨0,by omega,fun i h=>by omega,fun i _ _=>Nat.zero_le _,by simp [frs]⟩
  | j + 1, hj => by
    obtain ⟨c,h1,h2,h3,h4⟩:=yO8 h j (by omega);by_cases hin:j∈ps
    · obtain ⟨i,hi,e⟩:=zZ3.2 hin
      have hci:c=i:=by
        rcases Nat.lt_trichotomy i c with h5 | h5 | h5
        · have:=h2 i h5;omega
        · exact h5.symm
        · have:=h3 c (zB1 _) (by omega)
          have:=h.rise c i h5 hi
          omega
      subst hci;refine ⟨c+1,by omega,fun k hk => ?_,fun k h5 h6 => ?_,by rw [yL1 hin];omega⟩
      · by_cases e2:k=c
        · subst e2;omega
        · have:=h2 k (by omega);omega
      · have:=h.rise c k (by omega) h6;omega
    · refine ⟨c,h1,fun k hk=>by have:=h2 k hk;omega,fun k h5 h6 => ?_,by rw [yL2 hin,zA8];simp;omega⟩;have h7:=h3 k h5 h6;have h8:pv ps k≠j:=fun e=>hin (zZ3.1 ⟨k,h6,e⟩);omega
theorem frs_len {n C:Nat} {M:Nat->Nat->Rat} {ps:List Nat} (h:Ech n C M ps.length (pv ps)):(frs ps C).length+ps.length=C:=by
 obtain ⟨c,h1,h2,h3,h4⟩:=yO8 h C (zB1 _)
 have:c=ps.length:=by
  rcases Nat.lt_or_ge c ps.length with h5 | h5
  ·have:=h3 c (zB1 _) h5
   have:=h.lt c h5
   omega
  ·omega
 omega
theorem yO9 {T:List (List Rat)} {ps:List Nat} {n C:Nat} {M:Nat->Nat->Rat} (h:Ech n C M ps.length (pv ps)):(nvT T ps C C).length+ps.length=C:=by
 unfold nvT;rw [zA9];exact frs_len h
theorem jO7 {T:List (List Rat)} {ps:List Nat} {n C j m:Nat} (hs:shp T n C) (he:Ech n C (zB6 T) ps.length (pv ps)) (hl:zE0 T m) (hm:1<=m) (hj:¬ j∈ps) (hjC:j<C):∀ y∈nvR T ps C j ps.length,zC2 y m:=by
 intro y hy;obtain ⟨c,hc⟩:=List.mem_iff_getElem?.1 hy;have hcC:c<C:=by have:=(zA4.1 hc).1;rwa [zS1] at this
 rw [qI5 hcC] at hc;injection hc with hc;subst hc;by_cases e:c=j
 ·subst e;rw [zS7];exact (qT5 (.inr rfl)).mono hm
 ·by_cases h:∃ i,i<ps.length/\pv ps i=c
  ·obtain ⟨i,hi,rfl⟩:=h;rw [qG4 he hi e];have hin:i<n:=bY2 hi he.le;obtain ⟨r,hr,_,hq⟩:=zR8 hs hin hjC;exact qL5 (hl r (zA5 hr) _ (zA5 hq))
  ·rw [zZ0 e (fun i hi e2=>h ⟨i,hi,e2⟩)];exact (qT5 (.inl rfl)).mono hm
end rat
end Go.Proofs.YtagaabooccnamaaGreat
