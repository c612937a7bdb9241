/- Few of a table: two tables of the call's own out of an argument. Condition: as each says. -/
import Derived.Test.YtagaabooccnamaaGreatKC5
import Derived.Deep.CutRange
import Derived.BigQuiet
import Derived.RangeFuncFrom
import Derived.RangeFuncCalls
import Derived.RangeFuncLeaves
import Derived.Shelf.Abstract
import Derived.Shelf.RegionOpen
import Derived.WalkKit
import Derived.OwnWalkIn
import Derived.TacticsInMore
import Derived.LoopNIn
import Derived.LoopIn
import Derived.OwnWalk
open Go.Proofs.Tryz
open Go.Lib renaming hid -> hQ9
set_option linter.unusedVariables false
set_option linter.unusedSimpArgs false
set_option maxRecDepth 100000
set_option maxHeartbeats 6400000
open And renaming intro -> zA
open List renaming setIfInBounds_toArray -> zA0, set_cons_succ -> zA1, set_cons_zero -> zA2, getElem?_eq_getElem -> zA3, getElem?_eq_some_iff -> zA4, mem_of_getElem? -> zA5, getD_eq_getElem?_getD -> zA6, take_of_length_le -> zA7, length_append -> zA8, length_map -> zA9, replicate -> zB, getElem?_append_left -> zB0
open Nat renaming le_refl -> zB1, le_trans -> zB2
open Go.World renaming block_lt_of_cell? -> bQ0
open List renaming getElem?_set_self -> bQ3, length_set -> bQ5, length_take -> bQ7, getElem?_map -> bQ8, take_add_one -> bQ9, getElem?_append_right -> bW0, getElem?_set_ne -> bW1, mem_or_eq_of_mem_set -> bW3, getElem?_eq_none -> bW4, getElem?_toArray -> bW8, getElem?_drop -> bW9, ext_getElem? -> bX0, length_drop -> bX2, length_cons -> bX3, map_append -> bX5, take_zero -> bX6, map_toArray -> bX7
open Nat renaming pow_le_pow_right -> bX9, mul_le_mul_left -> bY, lt_of_lt_of_le -> bY2, zero_add -> bY5, mul_le_mul -> bY6
namespace Go.Proofs.YtagaabooccnamaaGreat
namespace rat
open Go.RowKit num mem nat txt str flow whl
theorem zT0.shape {w:World} {v:Value} (h:zT0 w v):∃ A n c,v=.slice A n c/\n<=c/\c<=maxLen:=by
 obtain ⟨A,n,c,e,h1,h2,_⟩:=h;exact ⟨A,n,c,e,h1,h2⟩
theorem zD.notV {w:World} {base base':Nat} {TS TS':TypeId} {V U:Value} {us vs:List Value} (h:zD w base TS V us) (h':zD w base' TS' U vs) (hne:TS≠TS'):∀ g,V.ownBlock=some g->U.ownBlock≠some g:=by
 intro g e e2;rcases h.2 with ⟨rfl,_⟩|⟨g',cap,cur,rfl,_,hg,_⟩
 ·cases e
 ·rcases h'.2 with ⟨rfl,_⟩|⟨g2,cap2,cur2,rfl,_,hg2,_⟩
  ·cases e2
  ·have e1:g'=g:=by simpa [Value.ownBlock] using e
   have e3:g2=g:=by simpa [Value.ownBlock] using e2
   subst e1;subst e3;rw [hg] at hg2;injection hg2 with hg2;injection hg2 with _ hg2;exact hne hg2
theorem zD.slice {w:World} {base:Nat} {TS:TypeId} {V:Value} {us:List Value} (h:zD w base TS V us):∃ A c,V=.slice A us.length c:=by
 rcases h.2 with ⟨e,h0⟩|⟨g,cap,cur,e,_⟩
 ·exact ⟨none,0,by rw [e,h0]⟩
 ·exact ⟨_,_,e⟩
structure TwoTabO (w wr:World) (V U:Value) (us vs:List Value) (pss qss:List (List Elt)):Prop where
 p:TabO .u64 4294967296 83 wr w.heap.size 44 V us pss
 q:TabO .i64 10000 65 wr w.heap.size 45 U vs qss
 c1:∀ ps∈pss,∀ p∈ps,(∀ v∈vs,Far v p.2.1/\Far v p.2.2)/\Far U p.2.1/\Far U p.2.2
 c2:∀ qs∈qss,∀ p∈qs,(∀ v∈us,Far v p.2.1/\Far v p.2.2)/\Far V p.2.1/\Far V p.2.2
 bQ:Below w.heap.size w wr
theorem TwoTabO.step {w wr w2 w3 w4:World} {V U a b V3 U4:Value} {us vs:List Value} {pss qss:List (List Elt)} {ps rs:List Elt} (h:TwoTabO w wr V U us vs pss qss) (hT:zP1 wr w2 a b ps rs) (n1:zI6 wr.heap.size ps) (n2:zI6 wr.heap.size rs) (r3:zD w3 w.heap.size 44 V3 (us ++ [a])) (g3:zH5 w2 w3 V V3) (b3:Below w.heap.size w2 w3) (r4:zD w4 w.heap.size 45 U4 (vs ++ [b])) (g4:zH5 w3 w4 U U4) (b4:Below w.heap.size w3 w4) :
  TwoTabO w w4 V3 U4 (us ++ [a]) (vs ++ [b]) (pss ++ [ps]) (qss ++ [rs]):=by
 obtain ⟨t1,t2,⟨t3,t4⟩,⟨t5,t6⟩,t7,b2⟩:=hT;have hw:w.heap.size<=wr.heap.size:=h.bQ.size
 have pu:∀ v∈us,∀ g,v.ownBlock=some g->g<wr.heap.size:=fun v hv g e=>by
  obtain ⟨qs,hq⟩:=h.p.k.mem hv;exact hq.under g e
 have qu:∀ v∈vs,∀ g,v.ownBlock=some g->g<wr.heap.size:=fun v hv g e=>by
  obtain ⟨qs,hq⟩:=h.q.k.mem hv;exact hq.under g e
 have pV:=h.p.row.under;have qU:=h.q.row.under;have a0:=t1.base_le;have b0:=t2.base_le;have p2:=h.p.bQ b2;have q2:=h.q.bQ b2;have oldp:∀ qs∈pss,∀ p∈qs,IsE .u64 4294967296 wr p:=fun qs hq p hp=>(h.p.farV qs hq p hp).1;have oldq:∀ qs∈qss,∀ p∈qs,IsE .i64 10000 wr p:=fun qs hq p hp=>(h.q.farV qs hq p hp).1;have P3:=p2.snoc (by decide) r3 g3 (t1.weak hw) (fun v hv g e e2=>by have:=pu v hv g e;have:=a0 g e2;omega) t3 (fun v hv=>n1.far (pu v hv)) (n1.far pV) (fun qs hq p hp=>⟨(oldp qs hq p hp).1.farOld a0,(oldp qs hq p hp).2.farOld a0⟩)
 have Q3:=q2.kept g3.2.1 (fun g e e2=>zD.notV p2.row q2.row (by decide) g e2 e) (fun v hv g e e2=>by
  obtain ⟨qs,hq⟩:=q2.k.mem hv;exact hq.notRow p2.row (by decide) g e e2) (fun qs hq p hp=>⟨(h.c2 qs hq p hp).2.1,(h.c2 qs hq p hp).2.2⟩)
 have hb3:zD0 65 w3 wr.heap.size b rs:=t2.other g3.2.1 fun g e e2=>t2.notRow p2.row (by decide) g e e2;have n2V:=n2.far pV
 have e3:∀ p∈rs,IsE .i64 10000 w3 p/\Far V3 p.2.1/\Far V3 p.2.2:=fun p hp=>by
  have x1:=g3.1 _ _ _ (t6 p hp).1.1 (n2V p hp).1;have x2:=g3.1 _ _ _ (t6 p hp).1.2 (n2V p hp).2;exact ⟨⟨x1.1,x2.1⟩,x1.2,x2.2⟩
 have Q4:=Q3.snoc (by decide) r4 g4 (hb3.weak hw) (fun v hv g e e2=>by have:=qu v hv g e;have:=b0 g e2;omega) (fun p hp=>⟨(e3 p hp).1,(t6 p hp).2⟩) (fun v hv=>n2.far (qu v hv)) (n2.far qU) (fun qs hq p hp=>⟨(oldq qs hq p hp).1.farOld b0,(oldq qs hq p hp).2.farOld b0⟩);have n1U:=n1.far qU
 have c1U:∀ qs∈pss ++ [ps],∀ p∈qs,Far U p.2.1/\Far U p.2.2:=fun qs hq p hp=>by
  rcases List.mem_append.1 hq with hq | hq
  ·exact (h.c1 qs hq p hp).2
  ·rw [List.mem_singleton.1 hq] at hp;exact n1U p hp
 have P4:=P3.kept g4.2.1 (fun g e e2=>zD.notV P3.row Q3.row (by decide) g e e2) (fun v hv g e e2=>by
  obtain ⟨qs,hq⟩:=P3.k.mem hv;exact hq.notRow Q3.row (by decide) g e e2) c1U
 refine ⟨P4,Q4,fun qs hq p hp => ?_,fun qs hq p hp => ?_,h.bQ.trans ((b2.mono hw).trans (b3.trans b4))⟩
 ·have eU:Far U4 p.2.1/\Far U4 p.2.2:=by
   have e1:=(P3.farV qs hq p hp).1;exact ⟨(g4.1 _ _ _ e1.1 (c1U qs hq p hp).1).2,(g4.1 _ _ _ e1.2 (c1U qs hq p hp).2).2⟩
  refine ⟨fun v hv => ?_,eU⟩;rcases List.mem_append.1 hq with hq | hq
  ·rcases List.mem_append.1 hv with hv | hv
   ·exact (h.c1 qs hq p hp).1 v hv
   ·rw [List.mem_singleton.1 hv];exact ⟨(oldp qs hq p hp).1.farOld b0,(oldp qs hq p hp).2.farOld b0⟩
  ·rw [List.mem_singleton.1 hq] at hp;rcases List.mem_append.1 hv with hv | hv
   ·exact n1.far (qu v hv) p hp
   ·rw [List.mem_singleton.1 hv];exact (t4 p hp).2
 ·rcases List.mem_append.1 hq with hq | hq
  ·have eV:Far V3 p.2.1/\Far V3 p.2.2:=by
    have e1:=(q2.farV qs hq p hp).1;have f:=(h.c2 qs hq p hp).2;exact ⟨(g3.1 _ _ _ e1.1 f.1).2,(g3.1 _ _ _ e1.2 f.2).2⟩
   refine ⟨fun v hv => ?_,eV⟩;rcases List.mem_append.1 hv with hv | hv
   ·exact (h.c2 qs hq p hp).1 v hv
   ·rw [List.mem_singleton.1 hv];exact ⟨(oldq qs hq p hp).1.farOld a0,(oldq qs hq p hp).2.farOld a0⟩
  ·rw [List.mem_singleton.1 hq] at hp;refine ⟨fun v hv => ?_,(e3 p hp).2⟩;rcases List.mem_append.1 hv with hv | hv
   ·exact n2.far (pu v hv) p hp
   ·rw [List.mem_singleton.1 hv];exact (t5 p hp).2
def yJ0 (M:Nat) (w:World) (e:Ending) (w':World):Prop:=∃ V U us vs pss qss,e=.returned (.tuple #[V,U])/\TwoTabO w w' V U us vs pss qss/\zE qss=zE pss/\us.length<=M/\(∀ r∈zE pss,r.length<=M /\ ∀ x∈r,zC2 x 1)
theorem jG7 (a0:Value) (M:Nat) (w:World) (h0:zT0 w a0) (hM:M<=8) :
  Calls prog 7 #[a0,.int .i64 (M:Int)] w (yJ0 M w):=by
 have at0:=h0;obtain ⟨A0,n0,c0,rfl,hc0,hm0⟩:=h0.shape;unfold maxLen at hm0
 go_enter func7,ntmps7
 go_wp2
 go_loopw [6,7,8] (fun v6 v7 v8 wr => ∃ (k:Nat) (us vs:List Value) (pss qss:List (List Elt)),k<=n0/\k<=M/\Hid (us.length=k)/\TwoTabO w wr v6 v7 us vs pss qss/\Hid (zE qss=zE pss)/\Hid (∀ r∈zE pss,r.length<=M /\ ∀ x∈r,zC2 x 1)/\v8=.int .i64 (k:Int)) (fun _ _ v8 _=>M-(intOf v8).toNat)
 case atStart =>
  have r0:=qR3 w w.heap.size 44 (zB1 _);have ba:=zC6 (w:=w) (zB1 _) (.cells #[] 44);have r1:=qR3 (w.alloc (.cells #[] 44)) w.heap.size 45 ba.size;have bb:=zC6 (w:=w.alloc (.cells #[] 44)) (zB1 _) (.cells #[] 45);refine ⟨0,[],[],[],[],by omega,by omega,rfl,⟨⟨r0.bQ bb,rfl,fun i u ps hu=>by simp at hu,fun u hu=>by simp at hu,fun u hu=>by simp at hu,fun i j u v _ hu=>by simp at hu⟩,⟨?_,rfl,fun i u ps hu=>by simp at hu,fun u hu=>by simp at hu,fun u hu=>by simp at hu,fun i j u v _ hu=>by simp at hu⟩,fun ps hp=>by simp at hp,fun ps hp=>by simp at hp,ba.trans (bb.mono ba.size)⟩,rfl,(by show ∀ r∈_,_;intro r hr;simp [zE] at hr),rfl⟩;simpa using r1
 case round =>
  obtain ⟨k,us,vs,pss,qss,hk,hkM,HUL,hT,HQP,HVL,rfl⟩:=hrel;obtain ⟨A6,c6,e6⟩:=zD.slice hT.p.row;obtain ⟨A7,c7,e7⟩:=zD.slice hT.q.row;subst e6;subst e7;by_cases hlt:k<n0/\k<M
  ·obtain ⟨hlt1,hlt2⟩:=hlt;obtain ⟨A_,n_,c_,e_,_,_,hel⟩:=at0.bQ hT.bQ;injection e_ with e1 e2 e3;subst e1;subst e2;subst e3;obtain ⟨ad,ue,rfl,ec,hq⟩:=hel k hlt1;have HT:=hQ9 hT;clear hel hT;obtain ⟨Aq,nq,cq,rfl,_⟩:=id hq
   go_wp2_with fail
   refine (jG6 Aq nq cq M _ hq hM).mono ?_;rintro e w2 ⟨a,b,ps,rs,rfl,hTR,n1,n2,hrs,hpl,hlq⟩;have b2:=hTR.2.2.2.2.2;have hw2:w.heap.size<=w2.heap.size:=zB2 HT.out.bQ.size b2.size;have P2:=HT.out.p.row.bQ b2;have Q2:=HT.out.q.row.bQ b2;have HTR:=hQ9 hTR
   have HULb:Hid (us.length<=1000000000/\vs.length<=1000000000):=by
    have h1:=HUL.out;have h2:=congrArg List.length HQP.out;rw [qH3,qH3,<- HT.out.q.len,<- HT.out.p.len] at h2;exact ⟨by omega,by omega⟩
   obtain ⟨Aa,ca,ea,_⟩:=hTR.1.isVF;obtain ⟨Ab,cb,eb,_⟩:=hTR.2.1.isVF;subst ea;subst eb;have HPL:=hQ9 hpl;clear hTR ec hpl
   go_wp2_with (first
    | (at_builtin;refine yJ rfl (.tmp 33) (.tmp 35) rfl underlying22 qH6 rfl P2 rfl rfl HULb.out.1 hw2 ?_;intro V3 w3 row3 b3 K3;have Q3:zD w3 w.heap.size 45 (.slice A7 vs.length c7) vs:=zD.kept Q2 K3.out.2.1 (fun g e e2=>zD.notV P2 Q2 (by decide) g e2 e);have hw3:w.heap.size<=w3.heap.size:=zB2 hw2 b3.size)
    | (at_builtin;refine yJ rfl (.tmp 37) (.tmp 39) rfl underlying23 qV8 rfl Q3 rfl rfl HULb.out.2 hw3 ?_;intro U4 w4 row4 b4 K4))
   have T4:=HT.out.step HTR.out n1 n2 row3 K3.out b3 row4 K4.out b4;have HUL4:Hid ((us ++ [Value.slice Aa ps.length ca]).length=k+1):=by show _=_;rw [zA8,HUL.out];rfl
   have HQP4:Hid (zE (qss ++ [rs])=zE (pss ++ [ps])):=by
    show _=_
    have h1:=HQP.out;unfold zE at h1 |-;rw [bX5,bX5,h1,List.map_cons,List.map_cons,hrs];try rfl
   have HVL4:Hid (∀ r∈zE (pss ++ [ps]),r.length<=M /\ ∀ x∈r,zC2 x 1):=by
    show ∀ r∈_,_
    intro r hr;unfold zE at hr;rw [bX5] at hr;rcases List.mem_append.1 hr with hr | hr
    ·exact HVL.out r hr
    ·obtain rfl:r=ps.map (·.1):=by simpa using hr
     refine ⟨by rw [zA9,HPL.out];omega,fun x hx => ?_⟩;obtain ⟨p,hp,rfl⟩:=List.mem_map.1 hx;exact hlq p hp
   have hsk:M-(k+1)<M-k:=by omega
   clear P2 Q2 Q3 K3 K4 row3 row4 n1 n2 hlq hrs HTR;go_wp2;go_roundw;case rel=>exact ⟨k+1,_,_,_,_,by omega,by omega,HUL4,T4,HQP4,HVL4,by go_num⟩
   case measure=>simp [intOf];omega
  ·have hx:¬ k<n0\/(k<n0 /\ ¬ k<M):=by omega
   have HEND:Hid (yJ0 M w (.returned (.tuple #[.slice A6 us.length c6,.slice A7 vs.length c7])) wr):=⟨_,_,us,vs,pss,qss,rfl,hT,HQP.out,by rw [HUL.out];exact hkM,HVL.out⟩;clear hT HQP HVL;rcases hx with hx | ⟨hx1,hx2⟩
   all_goals
    go_wp2;go_ret2;exact HEND.out
def RetFewT (M:Nat) (w:World) (e:Ending) (w':World):Prop:=∃ V U p,e=.returned (.tuple #[V,U])/\SlT .u64 4294967296 w' V p/\SlT .i64 10000 w' U p/\p.length<=M/\(∀ r∈p,r.length<=M)/\zE0 p 1/\Below w.heap.size w w'
theorem yJ1 (a0:Value) (M:Nat) (w:World) (h0:zT0 w a0) (hM:M<=8):Calls prog 7 #[a0,.int .i64 (M:Int)] w (RetFewT M w) :=
 (jG7 a0 M w h0 hM).mono fun e w' h => by
  obtain ⟨V,U,us,vs,pss,qss,h1,h2,h3,h4,h5⟩:=h;refine ⟨V,U,zE pss,h1,h2.p.slT,by rw [<- h3];exact h2.q.slT,by rw [qH3,<- h2.p.len];exact h4,fun r hr=>(h5 r hr).1,fun r hr=>(h5 r hr).2,h2.bQ⟩
theorem yJ2:∀ (ps:List Elt) (j:Nat) (u:Value),(zF3 ps)[j]?=some u -> ∃ i p,ps[i]?=some p/\((j=i*3/\u=.bool (ngB p.1.num))\/(j=i*3+1/\u=p.2.1)\/(j=i*3+2/\u=p.2.2))
  | [],j,u,h=>by simp [zF3] at h
  | p :: ps,0,u,h=>⟨0,p,rfl,.inl ⟨rfl,by simpa [zF3,zK5] using h.symm⟩⟩
  | p :: ps,1,u,h=>⟨0,p,rfl,.inr (.inl ⟨rfl,by simpa [zF3,zK5] using h.symm⟩)⟩
  | p :: ps,2,u,h=>⟨0,p,rfl,.inr (.inr ⟨rfl,by simpa [zF3,zK5] using h.symm⟩)⟩
  | p :: ps, j + 3, u, h => by
    have e:(zF3 (p :: ps))[j+3]?=(zF3 ps)[j]?:=by simp [zF3,zK5]
    rw [e] at h;obtain ⟨i,q,hq,h2⟩:=yJ2 ps j u h;refine ⟨i+1,q,by simpa using hq,?_⟩;rcases h2 with ⟨a,b⟩|⟨a,b⟩|⟨a,b⟩
    · exact .inl ⟨by omega,b⟩
    · exact .inr (.inl ⟨by omega,b⟩)
    · exact .inr (.inr ⟨by omega,b⟩)
section
variable {P:Program}
theorem jG8 {w:World} {t ty T:TypeId} (hT:P.underlying t=some (.slice T)) (hI:∃ i,P.info? T=some i/\i.zero=some (.agg #[.bool false,.slice none 0 0,.slice none 0 0])/\i.size=3/\i.bytes=56) {A:Option Addr} {n c:Nat} (hn:n<=c) :
  (Builtin.append_ #[t,t] ty #[.slice A n c,.slice none 0 0]).run P w=.ok (.slice A n c) w:=by
 obtain ⟨i,hi,hz,hs,hb⟩:=hI
 cases A with
 | none=>simp [Builtin.append_,go_sem,run_underlying hT,sizeOf,typeInfo,hi,Builtin.lenOf,Builtin.firstCells,hn]
 | some a=>simp [Builtin.append_,go_sem,run_underlying hT,sizeOf,typeInfo,hi,Builtin.lenOf,Builtin.firstCells,hn,storeCells]
theorem yJ3 {w:World} {base:Nat} {t ty T:TypeId} (hT:P.underlying t=some (.slice T)) (hI:∃ i,P.info? T=some i/\i.zero=some (.agg #[.bool false,.slice none 0 0,.slice none 0 0])/\i.size=3/\i.bytes=56) {v u:Value} {ps qs:List Elt} (hown:zD0 T w base v ps) (hu:zN1 w u qs) (hone:∀ p∈qs,p.2.1.oneCell'=true/\p.2.2.oneCell'=true) (hlen:ps.length<=1000000000) (hlen2:qs.length<=1000000000) (hbase:base<=w.heap.size) :
    ∃ v' w',(Builtin.append_ #[t,t] ty #[v,u]).run P w=.ok v' w'/\zD0 T w' base v' (ps ++ qs)/\zH5 w w' v v':=by
  obtain ⟨A,c,rfl,hc,hm,hcells⟩:=hu;obtain ⟨Av,cv,rfl,hcv,hmv,_⟩:=hown.isVF;by_cases hq:qs=[]
  · subst hq
    cases A with
    | none =>
      refine ⟨_,w,?_,by rw [List.append_nil];exact hown,zH5.of_below _ (Below.refl _ w)⟩;by_cases hc0:c=0
      · subst hc0;exact jG8 hT hI hcv
      · obtain ⟨i,hi,hz,hs,hb⟩:=hI
        cases Av with
        | none=>simp [Builtin.append_,go_sem,run_underlying hT,sizeOf,typeInfo,hi,Builtin.lenOf,Builtin.firstCells,hcv]
        | some a=>simp [Builtin.append_,go_sem,run_underlying hT,sizeOf,typeInfo,hi,Builtin.lenOf,Builtin.firstCells,hcv,storeCells]
    | some ad =>
      obtain ⟨i,hi,hz,hs,hb⟩:=hI;obtain ⟨v',w',g1,g2,g3,_,g5⟩:=run_append_own_at (P:=P) (w:=w) base t ty T i (.agg #[.bool false,.slice none 0 0,.slice none 0 0]) 3 56 hT hi hz hs hb rfl (by decide) _ ps.length (zF3 ps) hown ad 0 c [] rfl (fun j a ha=>by simp at ha) (fun a ha=>by simp at ha) (by unfold maxLen;omega) (by omega) hbase;refine ⟨v',w',g1,by unfold zD0;rw [List.append_nil];simpa using g2,qK7 g3 g5,g3,fun g hg hne e1 => ?_⟩;rcases g5 with h | h
      · exact hne (h ▸ e1)
      · rw [h] at e1;injection e1 with e1;omega
  · obtain ⟨p0,hp0⟩:∃ p0,qs[0]?=some p0:=⟨_,zA3 (List.length_pos_iff.2 hq)⟩;obtain ⟨g0,o0,rfl,_⟩:=hcells 0 p0 hp0;obtain ⟨i,hi,hz,hs,hb⟩:=hI
    have hadd:∀ j,(⟨g0,o0,none⟩:Addr).add j=⟨g0,o0+j,none⟩:=by
      intro j;unfold Addr.add;by_cases h:j=0
      · simp [h]
      · simp [h]
    obtain ⟨v',w',g1,g2,g3,_,g5⟩:=run_append_own_at (P:=P) (w:=w) base t ty T i (.agg #[.bool false,.slice none 0 0,.slice none 0 0]) 3 56 hT hi hz hs hb rfl (by decide) _ ps.length (zF3 ps) hown ⟨g0,o0,none⟩ qs.length c (zF3 qs) (qV1 qs) (fun j a ha=>by
      obtain ⟨k,p,hp,h⟩:=yJ2 qs j a ha;obtain ⟨g',o',e,c0,c1,c2⟩:=hcells k p hp;injection e with e;injection e with e1 e2;subst e1;subst e2;rw [hadd];rcases h with ⟨rfl,rfl⟩|⟨rfl,rfl⟩|⟨rfl,rfl⟩
      · exact c0
      · rw [<- Nat.add_assoc];exact c1
      · rw [<- Nat.add_assoc];exact c2) (fun a ha=>by
      obtain ⟨p,hp,hc⟩:=yH1 ha;simp only [zK5,List.mem_cons,List.not_mem_nil,or_false] at hc;rcases hc with rfl|rfl|rfl
      · rfl
      · exact (hone p hp).1
      · exact (hone p hp).2) (by unfold maxLen;omega) (by omega) hbase
    refine ⟨v',w',g1,by unfold zD0;rw [zA8,zF3,List.flatMap_append];exact g2,qK7 g3 g5,g3,fun g hg hne e1 => ?_⟩;rcases g5 with h | h
    · exact hne (h ▸ e1)
    · rw [h] at e1;injection e1 with e1;omega
theorem qW0 {w:World} {ops:Array Oper} {o:Oper} {a:Act} {K:Act->World->Prop} {Q:Exit->Act->World->Prop} {E:Prop} (hgd:o.guard=none) (s x:Operand) {t:TypeId}
  (ho:o.op=.call { callee:=.builtin .append,args:=#[s,x],argTypes:=#[t,t] })
  {base:Nat} {T:TypeId} (hT:P.underlying t=some (.slice T)) (hI:∃ i,P.info? T=some i/\i.zero=some (.agg #[.bool false,.slice none 0 0,.slice none 0 0])/\i.size=3/\i.bytes=56) {v u:Value} {ps qs:List Elt} (hs:a.eval s=v) (hown:zD0 T w base v ps) (hx:a.eval x=u) (hu:zN1 w u qs) (hone:∀ p∈qs,p.2.1.oneCell'=true/\p.2.2.oneCell'=true) (hlen:ps.length<=1000000000) (hlen2:qs.length<=1000000000) (hbase:base<=w.heap.size)
  (h:∀ v' w',zD0 T w' base v' (ps ++ qs)->Below base w w'->Hid (zH5 w w' v v')->K (a.put o.dst v') w') :
  if Region.wanted o (yielded ops a.tmps)=true then Oper.wp P o a w K Q else E:=by
 have hw:Region.wanted o (yielded ops a.tmps)=true:=by simp [Region.wanted,hgd]
 rw [if_pos hw];obtain ⟨v',w',hrun,g2,g3⟩:=yJ3 (P:=P) (ty:=o.type) hT hI hown hu hone hlen hlen2 hbase;unfold Oper.wp execOp;simp only [ho,resolve,invoke,builtin,Sem.run_bind,Sem.run_pure,Result.andThen_ok,bX7,List.map_cons,List.map_nil,hs,hx,hrun];exact h v' w' g2 ((Below.refl base w).grown g3.2.1 hbase hown.base_le) g3
end
structure TabJ (T:TypeId) (w:World) (base:Nat) (TS:TypeId) (V:Value) (us0 us:List Value) (pss:List (List Elt)):Prop where
 row:zD w base TS V us0
 len:us.length=pss.length
 own:∀ (i:Nat) (u:Value) (ps:List Elt),us[i]?=some u->pss[i]?=some ps->zD0 T w base u ps
 apart:∀ (i j:Nat) (u v:Value),i≠j->us[i]?=some u->us[j]?=some v -> ∀ h,u.ownBlock=some h->v.ownBlock≠some h
section
variable {T TS:TypeId} {w w1:World} {base:Nat} {V:Value} {us0 us:List Value} {pss:List (List Elt)}
theorem TabK.j (h:TabK T w base TS V us pss):TabJ T w base TS V us us pss:=⟨h.row,h.len,h.own,h.apart⟩
end
def Els (L:List Value) (w:World) (es:List Elt):Prop:=∀ e∈es,IsE .u64 4294967296 w e /\ ∀ v∈L,Far v e.2.1/\Far v e.2.2
structure TwoE (w wr:World) (V U:Value) (us0 us vs0 vs:List Value) (pss qss:List (List Elt)):Prop where
 p:TabJ 83 wr w.heap.size 44 V us0 us pss
 q:TabJ 65 wr w.heap.size 45 U vs0 vs qss
 x:Els (V :: U :: (us ++ vs)) wr pss.flatten
 bQ:Below w.heap.size w wr
section
variable {w wr w1:World} {V U:Value} {us0 us vs0 vs:List Value} {pss qss:List (List Elt)}
theorem TwoTabO.e (h:TwoTabO w wr V U us vs pss qss):TwoE w wr V U us us vs vs pss qss:=⟨h.p.k.j,h.q.k.j,fun e he=>by
 obtain ⟨ps,hp,he⟩:=List.mem_flatten.1 he;have f:=h.p.farV ps hp e he;have c:=h.c1 ps hp e he;refine ⟨f.1,fun v hv => ?_⟩;rcases List.mem_cons.1 hv with rfl|hv
 ·exact f.2
 ·rcases List.mem_cons.1 hv with rfl|hv
  ·exact c.2
  ·rcases List.mem_append.1 hv with hv | hv
   ·exact (h.p.far v hv ps hp e he).2
   ·exact c.1 v hv,h.bQ⟩
end
theorem qW1 (g o i:Nat):(⟨g,o,none⟩:Addr).add i=⟨g,o+i,none⟩:=by
 unfold Addr.add;by_cases h:i=0
 ·simp [h]
 ·simp [h]
theorem zD7.at_ {k:IntKind} {B:Nat} {w:World} {g:Nat} {TS:TypeId} {us:List Value} {T:List (List Rat)} (h:zD7 k B w g TS us T) {i:Nat} {r:List Rat} (hr:T[i]?=some r):∃ Ar cr,us[i]?=some (.slice Ar r.length cr)/\w.cell? ⟨g,i,none⟩=some (.slice Ar r.length cr)/\SlF k B w (.slice Ar r.length cr) r:=by
 have hi:i<us.length:=by rw [h.2.1];exact (zA4.1 hr).1
 have hu:us[i]?=some us[i]:=zA3 hi;have hs:=h.2.2 i _ r hu hr;obtain ⟨Ar,cr,e,_,_⟩:=hs.shape;have hc:=h.1.cell hu;rw [zR9] at hc;rw [e] at hu hs hc;exact ⟨Ar,cr,hu,hc,hs⟩
theorem zD7.sub {k:IntKind} {B:Nat} {w:World} {g:Nat} {TS:TypeId} {us:List Value} {T:List (List Rat)} (h:zD7 k B w g TS us T) {o m c:Nat} (hm:o+m<=T.length) (hc:m<=c) (hx:c<=maxLen):SlT k B w (.slice (some ⟨g,o,none⟩) m c) ((T.drop o).take m):=by
 have hl:us.length=T.length:=h.2.1;have e1:((us.drop o).take m).length=m:=by rw [bQ7,bX2];omega
 refine ⟨(us.drop o).take m,by rw [e1,bQ7,bX2];omega,⟨some ⟨g,o,none⟩,c,by rw [e1],by rw [e1];exact hc,hx,fun i u hu=>⟨_,rfl,?_⟩⟩,fun i u r hu hr => ?_⟩
 ·rw [qW1];have hi:i<m:=by have:=(zA4.1 hu).1;omega
  rw [List.getElem?_take_of_lt hi,bW9] at hu;have hcc:=h.1.cell hu;rwa [zR9] at hcc
 ·have hi:i<m:=by have:=(zA4.1 hu).1;omega
  rw [List.getElem?_take_of_lt hi,bW9] at hu hr;exact h.2.2 _ u r hu hr
theorem TabO.tabS {T0:TypeId} {w:World} {base g n:Nat} {TS:TypeId} {us:List Value} {pss:List (List Elt)} {k:IntKind} {B:Nat} (h:TabO k B T0 w base TS (.slice (some ⟨g,0,none⟩) n n) us pss) (hn:us.length=n):zD7 k B w g TS us (zE pss):=by
  refine ⟨⟨?_,fun u hu => ?_⟩,by rw [qH3];exact h.len,fun i u r hu hr => ?_⟩
  · rcases h.row.2 with ⟨e,_⟩|⟨g',cap,cur,e,_,hg,_,_,h1,h2⟩
    · cases e
    · injection e with e1 e2 e3;injection e1 with e1;injection e1 with e1 _ _;subst e1
      have e:cur=us.toArray:=by
        apply Array.toList_inj.1;rw [<- h2,zA7 (by simp;omega)]
      unfold Blk;rw [hg,e]
  · obtain ⟨i,hi⟩:=List.mem_iff_getElem?.1 hu;obtain ⟨ps,hp⟩:∃ ps,pss[i]?=some ps:=⟨_,zA3 (by rw [<- h.len];exact (zA4.1 hi).1)⟩;have hf:=(h.own i u ps hi hp).isVF;obtain ⟨A,c,e,_⟩:=hf;exact ⟨A,_,c,e⟩
  · rw [zE,bQ8] at hr
    cases hp:pss[i]? with
    | none=>rw [hp] at hr;cases hr
    | some ps =>
      rw [hp] at hr;obtain rfl:ps.map (·.1)=r:=by simpa using hr
      exact (h.own i u ps hu hp).sl (h.far u (zA5 hu) ps (zA5 hp))
theorem zD.weak {w:World} {base base':Nat} {TS:TypeId} {V:Value} {us:List Value} (h:zD w base TS V us) (hb:base'<=base):zD w base' TS V us:=by
 refine ⟨h.1,?_⟩;rcases h.2 with hn | ⟨g,cap,cur,hv,hg,rest⟩
 ·exact .inl hn
 ·exact .inr ⟨g,cap,cur,hv,zB2 hb hg,rest⟩
theorem TabO.weak {k:IntKind} {B:Nat} {T TS:TypeId} {w:World} {base base':Nat} {V:Value} {us:List Value} {pss:List (List Elt)} (h:TabO k B T w base TS V us pss) (hb:base'<=base):TabO k B T w base' TS V us pss :=
 ⟨zD.weak h.row hb,h.len,fun i u ps hu hp=>zD0.weak (h.own i u ps hu hp) hb,h.far,h.farV,h.apart⟩
theorem jG9 {w:World} {v u0:Value} {t0:List (List Rat)} (h:IsV w v [u0]) (h0:SlT .u64 4294967296 w u0 t0):zK9 w v [t0] :=
  ⟨[u0], rfl, h, by simp, fun i u t hu ht => by
    rcases i with _ | i
    · obtain rfl:u0=u:=by simpa using hu
      obtain rfl:t0=t:=by simpa using ht
      exact h0
    · simp at hu⟩
def jH (L:List (List Rat)) (a:Nat) (w:World) (e:Ending) (w':World):Prop:=∃ k:Nat,e=.returned (.int .i64 (k:Int))/\k<=L.length/\(∀ i,i<k->zB6 L i a=0)/\(k<L.length->zB6 L k a≠0)/\Below w.heap.size w w'
theorem yJ4 (a0:Value) (L:List (List Rat)) (a:Nat) (w:World) (h0:SlT .u64 4294967296 w a0 L) (hl:∀ r∈L,a<r.length):Calls prog 125 #[a0,.int .i64 (a:Int)] w (jH L a w):=by
 have st0:=h0;obtain ⟨A0,c0,rfl,hc0,hm0⟩:=h0.shape;unfold maxLen at hm0;have HL:=hQ9 hl;clear hl
 go_enter func125,ntmps125
 go_wp2
 go_loopw [8] (fun v8 wr => ∃ k:Nat,k<=L.length/\Hid (∀ i,i<k->zB6 L i a=0)/\Below w.heap.size w wr/\v8=.int .i64 (k:Int)) (fun v8 _=>L.length-(intOf v8).toNat)
 case atStart=>exact ⟨0,by omega,(by show ∀ i,_;intro i hi;omega),Below.refl _ _,rfl⟩
 case round =>
  obtain ⟨k,hk,HZ,bb,rfl⟩:=hrel;by_cases hlt:k<L.length
  ·obtain ⟨r,hr⟩:∃ r,L[k]?=some r:=⟨_,zA3 hlt⟩;have hal:=HL.out r (zA5 hr);obtain ⟨q,hq⟩:∃ q,r[a]?=some q:=⟨_,zA3 hal⟩;have he:Hid (zB6 L k a=q):=qN4 hr hq;obtain ⟨ad,rfl⟩:=st0.place (List.length_pos_iff.1 (by omega));obtain ⟨Ar,cr,hik,ecr,sr⟩:=(st0.bQ bb).at2 hr;obtain ⟨gr,or,u,t,rfl,hia,k0,k1,k2,su,st⟩:=sr.at_ hq;obtain ⟨Au,cu,rfl,_⟩:=id su;obtain ⟨At,ct,rfl,_⟩:=id st;have hix:=fun w=>zG6 (P:=prog) underlying44 (by kernel_rfl) (g:=gr) (o:=or) (c:=cr) hia w;have kq:IsQ wr (.agg #[.bool (ngB q.num),.slice Au (digs 4294967296 q.num.natAbs).length cu,.slice At (digs 4294967296 q.den).length ct]) q:=⟨_,_,rfl,su,st⟩;obtain ⟨t,ht⟩:∃ t,t=zJ3 q.num 0:=⟨_,rfl⟩;have hz:(t == 0)=decide (q=0):=by rw [ht,yI5]
   have HT:=hQ9 ht;clear hr hq ht sr;go_wp2_with fail
   refine (zR6 _ q t _ kq HT.out).mono ?_;rintro e w4 ⟨rfl,b4⟩;have bb4:=bb.trans (b4.mono bb.size);by_cases hq0:q=0
   ·obtain rfl:t=0:=by
     rw [hq0] at hz;simpa using hz
    have HZ2:Hid (∀ i,i<k+1->zB6 L i a=0):=by
     show ∀ i,_
     intro i hi;by_cases e:i=k
     ·subst e;rw [he.out];exact hq0
     ·exact HZ.out i (by omega)
    clear hz hq0 kq k0 k1 k2;go_wp2;go_roundw;case rel=>exact ⟨k+1,by omega,HZ2,bb4,by go_num⟩
    case measure=>simp [intOf];omega
   ·have hz1:¬ t=0:=by
     intro e;rw [e,decide_eq_false hq0] at hz;exact absurd hz (by decide)
    have HN:Hid (zB6 L k a≠0):=by show _≠_;rw [he.out];exact hq0
    clear hz hq0 kq k0 k1 k2;go_wp2;go_ret;exact ⟨k,rfl,by omega,HZ.out,fun _=>HN.out,bb4⟩
  ·obtain rfl:k=L.length:=by omega
   go_wp2;go_ret;exact ⟨_,rfl,zB1 _,HZ.out,fun h=>by omega,bb⟩
theorem jH0 (T:List (List Rat)):zV0 T.length [T] ↔ zF5 T:=by
 unfold zV0
 constructor
 ·intro h;exact (h T List.mem_cons_self).1
 ·intro h t ht;obtain rfl:=List.mem_singleton.1 ht;exact ⟨h,rfl⟩
theorem jH1 (T:List (List Rat)):zO4 T.length [T]=T:=qT9 T
theorem jH2 (a0:Value) (T:List (List Rat)) (w:World) (h0:SlT .u64 4294967296 w a0 T) (hl:zC T<=200/\T.length<=200/\zE0 T 100000):Calls prog 89 #[a0] w (fun e w'=>(zF5 T/\RetTO T.length T w e w')\/(¬ zF5 T/\zU9 [] 8 w e w')):=by
 have st0:=h0;obtain ⟨A0,c0,rfl,hc0,hm0⟩:=h0.shape;have HL:=hQ9 hl;clear hl;have ba:=zC6 (w:=w) (zB1 _) (.cells #[.slice A0 T.length c0] 22);have HV:=jG9 (zS4 w 22 [.slice A0 T.length c0]) (st0.bQ ba);have HLV:=hQ9 HV;clear HV
 go_enter func89,ntmps89;go_wp2_with fail
 refine (yI4 _ [T] T _ HLV.out rfl ⟨by simp,by simp;exact HL.out.1,fun t ht=>by rw [List.mem_singleton.1 ht];exact HL.out.2.2,HL.out.2.1⟩).mono ?_;rintro e w2 h2;rw [jH0,jH1] at h2;rcases h2 with ⟨hm,g,us,pss,rfl,hT,hV,hU,hg,b2⟩|⟨hm,V,rfl,hS,b2⟩
 ·have bb:=ba.trans (b2.mono ba.size);have hw:w.heap.size<=(w.alloc (.cells #[.slice A0 T.length c0] 22)).heap.size:=ba.size;have HE:=hQ9 (zA hm (zA hV (zA hU (zB2 hw hg))));have HT:=hQ9 hT;clear hm hT hV hU hg hw;go_wp2;go_ret2;exact .inl ⟨HE.out.1,g,us,pss,rfl,TabO.weak HT.out ba.size,HE.out.2.1,HE.out.2.2.1,HE.out.2.2.2,bb⟩
 ·rw [if_neg (by decide)] at hS;obtain ⟨AV,cV,rfl,-,-⟩:=hS.shape;have bb:=ba.trans (b2.mono ba.size);have HN:=hQ9 hm;clear hm;go_wp2;go_ret2;exact .inr ⟨HN.out,_,rfl,by rw [if_neg (by decide)];exact hS,bb⟩
def zM3 (us:List Value) (G:Nat->Prop):Prop:=∀ u∈us,∀ g,u.ownBlock=some g -> ¬ G g
def zT1 (w:World) (us us':List Value):Prop:=∀ G:Nat->Prop,(∀ x,G x->x<w.heap.size)->zM3 us G->zM3 us' G
theorem zT1.refl (w:World) (us:List Value):zT1 w us us:=fun _ _ h=>h
theorem zT1.set {w w1:World} {us us':List Value} (h:zT1 w us us') (hw:w.heap.size<=w1.heap.size) {g n c:Nat} (hg:w1.heap.size<=g) (i:Nat):zT1 w us (us'.set i (.slice (some ⟨g,0,none⟩) n c)):=fun G hG ho u hu x hx=>by
 rcases bW3 hu with hu | rfl
 ·exact h G hG ho u hu x hx
 ·intro hGx;have h1:=hG x hGx;have h2:g=x:=by simpa [Value.ownBlock] using hx
  omega
def qO9 (g:Nat) (us:List Value) (T':List (List Rat)) (w:World) (e:Ending) (w':World):Prop:=e=.returned (.tuple #[]) /\ ∃ us',zD7 .u64 4294967296 w' g 44 us' T'/\w.grownBy w' (some g)/\zT1 w us us'
theorem qW2 (w:World) (row:Option Nat):w.grownBy w row:=qW (Below.refl _ w) row
theorem jH3 {w w1:World} {g i:Nat} {u:Value} (h:w.grownBy w1 (some g)):w.grownBy (w1.setCell ⟨g,i,none⟩ u) (some g):=h.trans (zE9 w1 g i u)
theorem yJ5 (g o m c a n C S:Nat) (us:List Value) (a1:Value) (p:List Rat) (T:List (List Rat)) (P:Nat->Bool) (w:World) (h:zD7 .u64 4294967296 w g 44 us T) (hp:SlF .u64 4294967296 w a1 p) (hc:Hid (shp T n C/\p.length=C/\a<C/\o+m<=n/\m<=c/\n<=1000000/\C<=1000/\(∀ i,i<o->P i=false)/\(∀ i,o<=i->i<o+m->P i=true)/\(∀ r∈T,zK8 r S)/\zK8 p S/\(0<m->S+S<=4900))) :
  Calls prog 130 #[.slice (some ⟨g,o,none⟩) m c,a1,.int .i64 (a:Int)] w (qO9 g us (zF7 T P p a (o+m)) w):=by
 obtain ⟨A1,c1,rfl,_,_⟩:=hp.shape;have ha:=hc.out.2.2.1;have hom:=hc.out.2.2.2.1;have hmc:=hc.out.2.2.2.2.1;have hn:=hc.out.2.2.2.2.2.1
 go_enter func130,ntmps130
 go_wp2
 go_loopw [10] (fun v10 wr => ∃ (k:Nat) (us':List Value),k<=m/\zD7 .u64 4294967296 wr g 44 us' (zF7 T P p a (o+k))/\Hid (w.grownBy wr (some g))/\Hid (zT1 w us us')/\v10=.int .i64 (k:Int)) (fun v10 _=>m-(intOf v10).toNat)
 case atStart=>exact ⟨0,us,by omega,by rw [Nat.add_zero,qG9 o hc.out.2.2.2.2.2.2.2.1];exact h,qW2 _ _,zT1.refl _ _,rfl⟩
 case round =>
  obtain ⟨k,us',hk,TS,HG,HST,rfl⟩:=hrel;by_cases hlt:k<m
  ·have hs:=hc.out.1;obtain ⟨r,hr,hrl⟩:=zI0 hs (show o+k<n by omega);have hr2:(zF7 T P p a (o+k))[o+k]?=some r:=by rw [qG7 T P p a (o+k) (o+k) (zB1 _)];exact hr
   obtain ⟨q,hq⟩:∃ q,r[a]?=some q:=⟨_,zA3 (by omega)⟩;have he:Hid (zB6 T (o+k) a=q):=qN4 hr hq;have hP:=hc.out.2.2.2.2.2.2.2.2.1 (o+k) (by omega) (by omega);obtain ⟨Ar,cr,hur,ecr,sr⟩:=TS.at_ hr2;obtain ⟨gr,or,u,t,rfl,hia,k0,k1,k2,su,st⟩:=sr.at_ hq;obtain ⟨Au,cu,rfl,_⟩:=id su;obtain ⟨At,ct,rfl,_⟩:=id st;have hix:=fun w=>zG6 (P:=prog) underlying44 (by kernel_rfl) (g:=gr) (o:=or) (c:=cr) hia w;have ba:=zC6 (w:=wr) (zB1 _) (.cells #[.bool (ngB q.num),.slice Au (digs 4294967296 q.num.natAbs).length cu,.slice At (digs 4294967296 q.den).length ct] 83);have BT:=Blk.new wr 83 #[.bool (ngB q.num),.slice Au (digs 4294967296 q.num.natAbs).length cu,.slice At (digs 4294967296 q.den).length ct];have kq:IsQ (wr.alloc (.cells #[.bool (ngB q.num),.slice Au (digs 4294967296 q.num.natAbs).length cu,.slice At (digs 4294967296 q.den).length ct] 83)) (.agg #[.bool (ngB q.num),.slice Au (digs 4294967296 q.num.natAbs).length cu,.slice At (digs 4294967296 q.den).length ct]) q:=⟨_,_,rfl,su.bQ ba,st.bQ ba⟩;obtain ⟨t,ht⟩:∃ t,t=zJ3 q.num 0:=⟨_,rfl⟩;have hz:(t == 0)=decide (q=0):=by rw [ht,yI5]
   have HT:=hQ9 ht;have sp:=(h.1.keepF HG.out hp).bQ ba;have TSa:=TS.bQ ba;have sra:=sr.bQ ba;have HR:=hQ9 (zA hr (zA hrl (zA hq (zA hP hr2))));clear hr hrl hq ht su st sr hr2 hP hs TS hur;go_wp2_with fail
   refine (zR6 _ q t _ kq HT.out).mono ?_;rintro e w4 ⟨rfl,b4⟩;have bb4:=ba.trans (b4.mono ba.size);have TS4:=TSa.bQ b4;have BT4:=BT.bQ b4;have kq4:=kq.bQ b4;have sp4:=sp.bQ b4;have sr4:=sra.bQ b4;have HG4:Hid (w.grownBy w4 (some g)):=zL HG.out bb4;clear TSa BT kq sp sra b4 ba bb4 HG k0 k1 k2 ecr hix;by_cases hq0:q=0
   ·obtain rfl:t=0:=by
     rw [hq0] at hz;simpa using hz
    have TS5:zD7 .u64 4294967296 w4 g 44 us' (zF7 T P p a (o+(k+1))):=by
     rw [<- Nat.add_assoc,jC3 HR.out.2.2.2.1 HR.out.1 (by rw [he.out];exact hq0) (by rw [HR.out.2.1];exact hc.out.2.1.symm)];exact TS4
    clear hz hq0 kq4 TS4 BT4 sp4 sr4;go_wp2;go_roundw;case rel=>exact ⟨k+1,us',by omega,TS5,HG4,HST,by go_num⟩
    case measure=>simp [intOf];omega
   ·have hz1:¬ t=0:=by
     intro e;rw [e,decide_eq_false hq0] at hz;exact absurd hz (by decide)
    clear hz;have bd:=(Below.refl w4.heap.size w4).drew;have TSd:=TS4.bQ bd;have BTd:Blk w4.drew _ _ _:=BT4.drew;obtain ⟨V0,V1,V2,_,_,_⟩:=three BTd;have kqd:=kq4.bQ bd;have spd:=sp4.bQ bd;have srd:=sr4.bQ bd;obtain ⟨Ar2,cr2,hur2,ecr2,srd2⟩:=TSd.at_ HR.out.2.2.2.2
    have HLS:Hid (r.length=p.length/\r.length<=1000/\(∀ x∈r,zC2 x S)/\zC2 q S/\(∀ x∈p,zC2 x S)/\S<=4900/\S+S<=4900):=by
     have h1:=hc.out.2.2.2.2.2.2.2.2.2.1 r (zA5 HR.out.1);have h2:=hc.out.2.2.2.2.2.2.2.2.2.2.1;have h3:=hc.out.2.2.2.2.2.2.2.2.2.2.2 (by omega);exact ⟨by rw [HR.out.2.1];exact hc.out.2.1.symm,by rw [HR.out.2.1];exact hc.out.2.2.2.2.2.2.1,h1.len,h1.len q (zA5 HR.out.2.2.1),h2.len,by omega,h3⟩
    have HNL:Hid ((zG2 r q p).length<=1000000000):=by
     show _<=_
     rw [qM7 HLS.out.1];have:=HLS.out.2.1;omega
    have HNX:Hid ((zF7 T P p a (o+k)).set (o+k) (zG2 r q p)=zF7 T P p a (o+(k+1))):=by
     show _=_
     rw [<- Nat.add_assoc,qN9 HR.out.2.2.2.1 HR.out.1,he.out]
    have hokl:o+k<(zF7 T P p a (o+k)).length:=(zA4.1 HR.out.2.2.2.2).1;have HG5:Hid (w.grownBy w4.drew (some g)):=zL HG4.out bd;clear TS4 BT4 kq4 sp4 sr4 HG4 hq0;go_upto_region 5 with (fail)
    go_region_law (go_simp;go_at_call 153;refine (jF1 _ _ _ r q p S S S _ (by exact srd2) (by exact kqd) (by exact spd) HLS.out.1 HLS.out.2).mono ?_;rintro e w6 ⟨gn,rfl,RNn,hgn,b6⟩;have sR:=RNn.sl rfl HNL.out;have TS6:=TSd.bQ b6;obtain ⟨u0,c6⟩:=TS6.cellAt (i:=o+k) hokl;have f6:=TS6.frozenAt (o+k))
    all_goals
     have TS7:=TS6.stored (o+k) sR;rw [HNX.out] at TS7;have HG7:Hid (w.grownBy (w6.setCell ⟨g,o+k,none⟩ (.slice (some ⟨gn,0,none⟩) (zG2 r q p).length (zG2 r q p).length)) (some g)):=jH3 (zL HG5.out b6);have HST7:Hid (zT1 w us (us'.set (o+k) (.slice (some ⟨gn,0,none⟩) (zG2 r q p).length (zG2 r q p).length))):=zT1.set HST.out HG5.out.size hgn (o+k);clear TS6 TSd;go_wp2;go_roundw;case rel=>exact ⟨k+1,_,by omega,TS7,HG7,HST7,by go_num⟩
     case measure=>simp [intOf];omega
  ·obtain rfl:k=m:=by omega
   go_wp2
   go_end0
   exact ⟨rfl,us',TS,HG.out,HST.out⟩
def zC8 (S:Value->Prop) (w:World) (base:Nat) (e:TypeId) (v:Value) (vs:List Value):Prop:=zD w base e v vs /\ ∀ g,v.ownBlock=some g -> ∃ cs,w.heap[g]?=some (.cells cs e (0,0)) /\ ∀ c∈cs,S c
theorem zC8.grown {S:Value->Prop} {w w':World} {base:Nat} {e:TypeId} {v:Value} {vs:List Value} {row:Option Nat} (h:zC8 S w base e v vs) (hg:w.grownBy w' row) (hne:∀ g,v.ownBlock=some g->row≠some g):zC8 S w' base e v vs:=by
 refine ⟨zD.kept h.1 hg hne,fun g e1 => ?_⟩;obtain ⟨cs,h1,h2⟩:=h.2 g e1;exact ⟨cs,(hg.block g (h.1.under g e1) (fun e2=>hne g e1 e2.symm)).trans h1,h2⟩
theorem zC8.bQ {S:Value->Prop} {w w':World} {base:Nat} {e:TypeId} {v:Value} {vs:List Value} (h:zC8 S w base e v vs) (hb:Below w.heap.size w w'):zC8 S w' base e v vs:=by
 refine ⟨h.1.bQ hb,fun g e1 => ?_⟩;obtain ⟨cs,h1,h2⟩:=h.2 g e1;exact ⟨cs,(hb.block g (h.1.under g e1)).trans h1,h2⟩
theorem qW3 (S:Value->Prop) (w:World) (base:Nat) (e:TypeId):zC8 S w base e (.slice none 0 0) []:=⟨⟨rfl,.inl ⟨rfl,rfl⟩⟩,fun g h=>by cases h⟩
theorem SlF.keepX {k:IntKind} {B:Nat} {w w':World} {v:Value} {r:List Rat} {g:Nat} {e:TypeId} {cs:Array Value} (h:SlF k B w v r) (hB:w.heap[g]?=some (.cells cs e (0,0))) (hb:∀ c∈cs,∀ b,c ≠ .bool b) (hi:∀ c∈cs,∀ n,c ≠ .int k n) (hg:w.grownBy w' (some g)):SlF k B w' v r:=by
 obtain ⟨ps,h1,⟨A,c,e1,h2,h3,h4⟩,h5⟩:=h;refine ⟨ps,h1,⟨A,c,e1,h2,h3,fun i p hp => ?_⟩,fun p hp=>⟨flow.off (h5 p hp).1 hB hi hg,flow.off (h5 p hp).2 hB hi hg⟩⟩;obtain ⟨g',o,e2,c0,c1,c2⟩:=h4 i p hp
 have hne:some g'≠some g:=by
  intro e3;injection e3 with e3;subst e3;rw [cell_of_row w g' _ cs e (0,0) hB] at c0;exact hb _ (Array.mem_of_getElem? c0) _ rfl
 exact ⟨g',o,e2,hg.cell c0 hne,hg.cell c1 hne,hg.cell c2 hne⟩
def isI (v:Value):Prop:=∃ n,v=.int .i64 n
section
variable {P:Program}
theorem jH4 {w:World} {base:Nat} {t ty e:TypeId} (hT:P.underlying t=some (.slice e)) (hI:∃ i,P.info? e=some i/\i.zero=some (.int .i64 0)/\i.size=1/\i.bytes=8) {v:Value} {vs news:List Value} (hown:zC8 isI w base e v vs) {ad:Addr} {m c:Nat} (hm:m=news.length) (hm0:0<m)
  (hr:∀ (i:Nat) (u:Value),news[i]?=some u->w.cell? (ad.add i)=some u) (h1:∀ u∈news,isI u) (hlen:vs.length+m<=1000000000) (hbase:base<=w.heap.size) :
  ∃ v' w',(Builtin.append_ #[t,t] ty #[v,.slice (some ad) m c]).run P w=.ok v' w'/\zC8 isI w' base e v' (vs ++ news)/\w.grownBy w' v.ownBlock/\(v'.ownBlock=v.ownBlock\/v'.ownBlock=some w.heap.size):=by
 obtain ⟨i,hi,hz,hs,hby⟩:=hI;subst hm;have one:∀ u∈news,u.oneCell'=true:=fun u hu=>by obtain ⟨n,rfl⟩:=h1 u hu;rfl
 have hl:news.length=news.length*i.size:=by rw [hs,Nat.mul_one]
 have zs:∀ n,∀ c∈Builtin.zeroCells (Value.int .i64 0).cells n,isI c:=by
  intro n c hc
  have:c=.int .i64 0:=by
   have h0:∀ n,∀ c∈(Builtin.zeroCells (Value.int .i64 0).cells n),c=.int .i64 0:=by
    intro n c hc;unfold Builtin.zeroCells at hc;simp [Value.cells,Nat.mod_one] at hc;obtain ⟨_,h3⟩:=hc
    first | exact h3.symm | exact h3.2.symm
   exact h0 n c hc
  exact ⟨0,this⟩
 obtain ⟨v',w',g1,g2,g3,_,g5⟩:=run_append_own_at (P:=P) w base t ty e i (.int .i64 0) 1 8 hT hi hz hs hby rfl (by decide) v vs.length vs hown.1 ad news.length c news (by simp) (fun j u hu=>hr j u hu) one (by unfold maxLen;omega) (by omega) hbase;refine ⟨v',w',g1,⟨by unfold zD;rw [zA8];exact g2,fun g hg => ?_⟩,g3,g5⟩;rcases hown.1.2 with ⟨rfl,h0⟩|⟨g',cap,cur,rfl,hbg,hgg,hnc,hcm,hcs,htake⟩
 ·have hx:vs=[]:=List.eq_nil_of_length_eq_zero h0;subst hx;have hr2:=run_append_nil (P:=P) w t ty e i (.int .i64 0) hT hi hz ad news.length c news hl hr hm0 (by omega) (by rw [hby];simp at hlen;omega);rw [hr2] at g1;injection g1 with g1 g1';subst g1;subst g1';obtain rfl:w.heap.size=g:=by simpa [Value.ownBlock] using hg
  refine ⟨_,heap_alloc_new w.drew _,fun c hc => ?_⟩;rcases Array.mem_append.1 hc with hc | hc
  ·exact h1 c (by simpa using hc)
  ·exact zs _ c hc
 ·obtain ⟨cs,hcs1,hcs2⟩:=hown.2 g' rfl;rw [hgg] at hcs1;injection hcs1 with hcs1;injection hcs1 with hcs1 _ _;subst hcs1;by_cases hroom:vs.length+news.length<=cap
  ·have hfit:vs.length*i.size+news.length<=cur.size:=by rw [hcs,hs];omega
   have hr2:=run_append_room (P:=P) w t ty e i hT hi g' vs.length cap cur hgg ad news.length c news hl hr one hroom hfit;rw [hr2] at g1;injection g1 with g1 g1';subst g1;subst g1';obtain rfl:g'=g:=by simpa [Value.ownBlock] using hg
   refine ⟨_,setRow_heap w g' cur _ e _ hgg,fun c hc => ?_⟩;have hc2:c∈cur.toList.take (vs.length*i.size) ++ news ++ cur.toList.drop (vs.length*i.size+news.length):=by simpa using hc
   rcases List.mem_append.1 hc2 with hc2 | hc2
   ·rcases List.mem_append.1 hc2 with hc2 | hc2
    ·exact hcs2 c (by simpa using List.mem_of_mem_take hc2)
    ·exact h1 c hc2
   ·exact hcs2 c (by simpa using List.mem_of_mem_drop hc2)
  ·have holds:∀ j u,vs[j]?=some u->w.cell? ((⟨g',0,none⟩:Addr).add j)=some u:=World.ownsRow.cells hown.1 (g:=g') rfl;have hr2:=run_append_grow (P:=P) w t ty e i (.int .i64 0) hT hi hz ⟨g',0,none⟩ vs.length cap vs (by rw [hs];omega) holds ad news.length c news hl hr (by omega) (by omega) (growslice_fits (by omega) (by rw [hby];omega));rw [hr2] at g1;injection g1 with g1 g1';subst g1;subst g1';obtain rfl:w.heap.size=g:=by simpa [Value.ownBlock] using hg
   refine ⟨_,heap_alloc_new w.drew _,fun c hc => ?_⟩;rcases Array.mem_append.1 hc with hc | hc
   ·rcases Array.mem_append.1 hc with hc | hc
    ·have hcv:c∈vs:=by simpa using hc
     rw [<- htake] at hcv;exact hcs2 c (by simpa using List.mem_of_mem_take hcv)
    ·exact h1 c (by simpa using hc)
   ·exact zs _ c hc
theorem jH5 {w:World} {o:Oper} {a:Act} {K:Act->World->Prop} {Q:Exit->Act->World->Prop} (s x:Operand) {t:TypeId}
  (ho:o.op=.call { callee:=.builtin .append,args:=#[s,x],argTypes:=#[t,t] })
  {base:Nat} {e:TypeId} (hT:P.underlying t=some (.slice e)) (hI:∃ i,P.info? e=some i/\i.zero=some (.int .i64 0)/\i.size=1/\i.bytes=8) {v:Value} {vs news:List Value} (hs:a.eval s=v) (hown:zC8 isI w base e v vs) {ad:Addr} {m c:Nat} (hx:a.eval x=.slice (some ad) m c) (hm:m=news.length) (hm0:0<m)
  (hr:∀ (i:Nat) (u:Value),news[i]?=some u->w.cell? (ad.add i)=some u) (h1:∀ u∈news,isI u) (hlen:vs.length+m<=1000000000) (hbase:base<=w.heap.size)
  (h:∀ v' w',zC8 isI w' base e v' (vs ++ news)->Hid (w.grownBy w' v.ownBlock)->Hid (v'.ownBlock=v.ownBlock\/v'.ownBlock=some w.heap.size)->K (a.put o.dst v') w'):o.wp P a w K Q:=by
 obtain ⟨v',w',hrun,h2,h3,h4⟩:=jH4 (P:=P) (ty:=o.type) hT hI hown (c:=c) hm hm0 hr h1 hlen hbase;unfold Oper.wp execOp;simp only [ho,resolve,invoke,builtin,Sem.run_bind,Sem.run_pure,Result.andThen_ok,bX7,List.map_cons,List.map_nil,hs,hx,hrun];exact h v' w' h2 h3 h4
theorem qH7 {w:World} {ops:Array Oper} {rest:List Oper} {o:Oper} {a:Act} {Q:Exit->Act->World->Prop} (hgd:o.guard=none) (s x:Operand) {t:TypeId}
  (ho:o.op=.call { callee:=.builtin .append,args:=#[s,x],argTypes:=#[t,t] })
  {base:Nat} {e:TypeId} (hT:P.underlying t=some (.slice e)) (hI:∃ i,P.info? e=some i/\i.zero=some (.int .i64 0)/\i.size=1/\i.bytes=8) {v:Value} {vs news:List Value} (hs:a.eval s=v) (hown:zC8 isI w base e v vs) {ad:Addr} {m c:Nat} (hx:a.eval x=.slice (some ad) m c) (hm:m=news.length) (hm0:0<m)
  (hr:∀ (i:Nat) (u:Value),news[i]?=some u->w.cell? (ad.add i)=some u) (h1:∀ u∈news,isI u) (hlen:vs.length+m<=1000000000) (hbase:base<=w.heap.size)
  (h:∀ v' w',zC8 isI w' base e v' (vs ++ news)->Hid (w.grownBy w' v.ownBlock)->Hid (v'.ownBlock=v.ownBlock\/v'.ownBlock=some w.heap.size)->wpList P ops Q rest (a.put o.dst v') w'):wpList P ops Q (o :: rest) a w :=
 wpList_plain hgd fun _ hK=>jH5 s x ho hT hI hs hown hx hm hm0 hr h1 hlen hbase fun v' w' h2 h3 h4=>hK _ _ (h v' w' h2 h3 h4)
end
theorem zC8.keepF {w w':World} {base:Nat} {e:TypeId} {V:Value} {vs:List Value} {v:Value} {r:List Rat} (h:zC8 isI w base e V vs) (hg:w.grownBy w' V.ownBlock) (hs:SlF .u64 4294967296 w v r):SlF .u64 4294967296 w' v r:=by
  cases ho:V.ownBlock with
  | none=>rw [ho] at hg;exact hs.bQ ⟨hg.os,hg.tape,hg.output,hg.size,fun k hk=>hg.block k hk (by simp)⟩
  | some g =>
    rw [ho] at hg;obtain ⟨cs,h1,h2⟩:=h.2 g ho;exact hs.keepX h1 (fun c hc b=>by obtain ⟨n,rfl⟩:=h2 c hc;simp) (fun c hc n=>by obtain ⟨n',rfl⟩:=h2 c hc;simp) hg
theorem zD7.keepX {w w':World} {base g:Nat} {e TS:TypeId} {V:Value} {vs us:List Value} {T:List (List Rat)} (h:zD7 .u64 4294967296 w g TS us T) (hX:zC8 isI w base e V vs) (hne:V.ownBlock≠some g) (hg:w.grownBy w' V.ownBlock):zD7 .u64 4294967296 w' g TS us T :=
 ⟨h.1.grown hg hne,h.2.1,fun i u r hu hr=>hX.keepF hg (h.2.2 i u r hu hr)⟩
theorem zC8.notTab {w:World} {base g:Nat} {e TS:TypeId} {V:Value} {vs us:List Value} (h:zC8 isI w base e V vs) (hT:zG1 w g TS us) (hne:e≠TS):V.ownBlock≠some g:=fun e1=>by
 obtain ⟨cs,h1,_⟩:=h.2 g e1;have h2:=hT.1;unfold Blk at h2;rw [h1] at h2;injection h2 with h2;injection h2 with _ h2;exact hne h2
theorem zW9 {w w1 w2:World} {row:Option Nat} {g:Nat} (h:w.grownBy w1 row) (h2:w1.grownBy w2 (some g)) (hg:w.heap.size<=g):w.grownBy w2 row:=by
 refine ⟨h2.os.trans h.os,h2.tape.trans h.tape,h2.output.trans h.output,zB2 h.size h2.size,fun k hk hne => ?_⟩;rw [h2.block k (bY2 hk h.size) (fun e=>by injection e with e;omega)];exact h.block k hk hne
theorem yJ6 {w w1 w2:World} {row:Option Nat} {v:Value} (h:w.grownBy w1 row) (h2:w1.grownBy w2 v.ownBlock) (hg:∀ g,v.ownBlock=some g->w.heap.size<=g):w.grownBy w2 row:=by
 cases e:v.ownBlock with
 | none=>rw [e] at h2;exact zL h ⟨h2.os,h2.tape,h2.output,h2.size,fun k hk=>h2.block k hk (by simp)⟩
 | some g=>rw [e] at h2;exact zW9 h h2 (hg g e)
theorem Dwn.small {T0 T:List (List Rat)} {n C a S:Nat} {ps:List Nat} {d:Rat} (h:Dwn T0 T n C a ps d S) (hS:(S+1)*2^(n-1)<=400):zG0 T 399:=by
 obtain ⟨S',h1,h2⟩:=h.len;refine h1.mono ?_;have h3:(S+1)*2^(min ps.length (n-1))<=(S+1)*2^(n-1):=bY _ (bX9 (by omega) (Nat.min_le_right _ _));omega
theorem zD7.offQ {w w':World} {g gx n C:Nat} {TS t:TypeId} {us:List Value} {T:List (List Rat)} {a b c:Value} (h:zD7 .u64 4294967296 w g TS us T) (hs:shp T n C) (hB:Blk w gx t #[a,b,c]) (hno:∀ x∈(#[a,b,c]:Array Value),∀ n,x ≠ .int .u64 n) (hne:TS≠t) (hg:w.grownBy w' (some gx)) (hoff:0<C -> ∀ u∈us,u.ownBlock≠some gx):zD7 .u64 4294967296 w' g TS us T:=by
 have hgx:g≠gx:=fun e=>by
  have h1:=h.1.1;unfold Blk at h1 hB;rw [e,hB] at h1;injection h1 with h1;injection h1 with _ h1;exact hne h1.symm
 refine ⟨h.1.grown hg (fun e=>hgx (by injection e with e;exact e.symm)),h.2.1,fun i u r hu hr => ?_⟩;have hsl:=h.2.2 i u r hu hr;by_cases h0:r=[]
 ·subst h0;exact hsl.any
 ·have hC:0<C:=by rw [<- hs.2 r (zA5 hr)];exact List.length_pos_iff.2 h0
  exact hsl.off hB hno hg (hoff hC u (zA5 hu))
theorem zC8.keepS {w w':World} {base:Nat} {e:TypeId} {V:Value} {vs:List Value} {v:Value} {l:List Nat} (h:zC8 isI w base e V vs) (hg:w.grownBy w' V.ownBlock) (hs:IsS w .u64 v l):IsS w' .u64 v l:=by
  cases ho:V.ownBlock with
  | none=>rw [ho] at hg;exact hs.bQ ⟨hg.os,hg.tape,hg.output,hg.size,fun k hk=>hg.block k hk (by simp)⟩
  | some g =>
    rw [ho] at hg;obtain ⟨cs,h1,h2⟩:=h.2 g ho;exact flow.off hs h1 (fun c hc n=>by obtain ⟨n',rfl⟩:=h2 c hc;simp) hg
theorem zC8.notBlk {w:World} {base g:Nat} {e t:TypeId} {V:Value} {vs:List Value} {cs:Array Value} (h:zC8 isI w base e V vs) (hT:Blk w g t cs) (hne:e≠t):∀ x,V.ownBlock=some x->some g≠some x:=fun x e1 e2=>by
 obtain ⟨cs,h1,_⟩:=h.2 x e1;injection e2 with e2;subst e2;unfold Blk at hT;rw [h1] at hT;injection hT with hT;injection hT with _ hT;exact hne hT
theorem zC8.keepBlk {w w':World} {base g:Nat} {e t:TypeId} {V:Value} {vs:List Value} {cs:Array Value} (h:zC8 isI w base e V vs) (hT:Blk w g t cs) (hne:e≠t) (hg:w.grownBy w' V.ownBlock):Blk w' g t cs:=by
  cases ho:V.ownBlock with
  | none=>rw [ho] at hg;exact hT.bQ ⟨hg.os,hg.tape,hg.output,hg.size,fun k hk=>hg.block k hk (by simp)⟩
  | some x =>
    rw [ho] at hg;exact Blk.grown hT hg (fun e=>h.notBlk hT hne x ho (by rw [e]))
theorem qC (w:World) (g:Nat) (x y z:Value):w.grownBy (((w.setCell ⟨g,0,none⟩ x).setCell ⟨g,1,none⟩ y).setCell ⟨g,2,none⟩ z) (some g):=((zE9 w g 0 x).trans (zE9 _ g 1 y)).trans (zE9 _ g 2 z)
theorem no3 {k:IntKind} {A D:Option Addr} {n m c e:Nat} (b:Bool):∀ x∈(#[.bool b,.slice A n c,.slice D m e]:Array Value),∀ z,x ≠ .int k z:=by
 intro x hx z;have:x=.bool b\/x=.slice A n c\/x=.slice D m e:=by simpa using hx
 rcases this with rfl|rfl|rfl<;>simp
theorem zM3.set {us:List Value} {G:Nat->Prop} (h:zM3 us G) {u:Value} (hu:∀ g,u.ownBlock=some g -> ¬ G g) (i:Nat):zM3 (us.set i u) G:=fun x hx g hg=>by
 rcases bW3 hx with hx | rfl
 ·exact h x hx g hg
 ·exact hu g hg
def pI (ps:List Nat):List Value:=vi (ps.map fun (i:Nat)=>(i:Int))
theorem zN5 (ps:List Nat):(pI ps).length=ps.length:=by unfold pI;rw [vi_len,zA9]
theorem qP (ps:List Nat) (a:Nat):pI ps ++ [.int .i64 (a:Int)]=pI (ps ++ [a]):=by unfold pI vi;simp
structure DownEnd (T0:List (List Rat)) (g n C pl S:Nat) (w:World) (v v5:Value) (w':World) (T:List (List Rat)) (us:List Value) (ps:List Nat) (d:Rat):Prop where
 dwn:Dwn T0 T n C pl ps d S
 tab:zD7 .u64 4294967296 w' g 44 us T
 piv:zC8 isI w' w.heap.size 3 v (pI ps)
 num:IsQ w' v5 d
 len:zC2 d (1+400*ps.length)
 own:w.grownBy w' (some g)
def yJ7 (T0:List (List Rat)) (g n C pl S:Nat) (w:World) (e:Ending) (w':World):Prop:=∃ v v5 T us ps d,e=.returned (.tuple #[v,v5])/\DownEnd T0 g n C pl S w v v5 w' T us ps d
theorem jH6 (g n C pl S : Nat) (us : List Value) (T0 : List (List Rat)) (w : World) (h : zD7 .u64 4294967296 w g 44 us T0) (hc : Hid (shp T0 n C /\ pl <= C /\ n <= 5 /\ C <= 1000 /\ zG0 T0 S /\ (S + 1) * 2 ^ (n - 1) <= 400)) :
    Calls prog 90 #[.slice (some ⟨g,0,none⟩) n n,.int .i64 (pl:Int)] w (yJ7 T0 g n C pl S w):=by
  have hn5:=hc.out.2.2.1;have hC:=hc.out.2.2.2.1;have hpl:=hc.out.2.1;obtain ⟨O,hO⟩:∃ O:Rat,O=1:=⟨_,rfl⟩
  have CO:∀ w,Calls prog 41 #[.int .i64 1] w (RetQ O w):=fun w=>by
    have h:=qH 1 w (by omega) (by omega);rwa [show ((1:Int):Rat)=O by rw [hO];rfl] at h
  have HO:=hQ9 hO;clear hO
  go_enter func90,ntmps90;go_wp2_with fail
  refine (CO _).mono ?_;rintro e w2 ⟨v2,rfl,k2,-,b2⟩;obtain ⟨u2,t2,rfl,s2,d2⟩:=k2;obtain ⟨A2,c2,rfl,_⟩:=id s2;obtain ⟨D2,e2,rfl,_⟩:=id d2;have ba:=zC6 (w:=w) (zB1 _) (.cells #[.bool false,.slice none 0 0,.slice none 0 0] 83);have hs1:(w.alloc (.cells #[.bool false,.slice none 0 0,.slice none 0 0] 83)).heap.size=w.heap.size+1:=by first | rfl | exact Array.size_push _
  have BR0:=(Blk.new w 83 #[.bool false,.slice none 0 0,.slice none 0 0]).bQ b2;have ba2:=zC6 (w:=w2) (zB1 _) (.cells #[.bool (ngB O.num),.slice A2 (digs 4294967296 O.num.natAbs).length c2,.slice D2 (digs 4294967296 O.den).length e2] 83);have BP0:=Blk.new w2 83 #[.bool (ngB O.num),.slice A2 (digs 4294967296 O.num.natAbs).length c2,.slice D2 (digs 4294967296 O.den).length e2];have hgP:w.heap.size<w2.heap.size:=by have:=b2.size;omega
  have hglt:g<w.heap.size:=h.lt;have bb2:=ba.trans (b2.mono ba.size);have TS0:=(h.bQ bb2).bQ ba2;have HG0:Hid (w.grownBy _ (some g)):=qW (bb2.trans (ba2.mono bb2.size)) (some g);have s20:=s2.bQ ba2;have d20:=d2.bQ ba2;have BR1:=BR0.bQ ba2
  have HD0:Hid (Dwn T0 T0 n C 0 [] O S):=by
    show Dwn T0 T0 n C 0 [] O S
    rw [HO.out];exact Dwn.start hc.out.1 hc.out.2.2.2.2.1
  have HL0:Hid (zC2 O (1+400*([]:List Nat).length)):=by
    show zC2 O _
    rw [HO.out];exact qT5 (.inr rfl)
  have HO0:Hid (0<C->zM3 us (fun x=>x=w.heap.size\/x=w2.heap.size)):=by
    show _->_
    intro hC0 u hu x hx hG;obtain ⟨i,hi⟩:=List.mem_iff_getElem?.1 hu;obtain ⟨r,hr⟩:∃ r,T0[i]?=some r:=⟨_,zA3 (by rw [<- h.2.1];exact (zA4.1 hi).1)⟩;have hsl:=h.2.2 i u r hi hr;have hr0:r≠[]:=List.length_pos_iff.1 (by rw [hc.out.1.2 r (zA5 hr)];exact hC0);obtain ⟨g',o',c',rfl,hlt,_⟩:=hsl.place hr0;have e1:g'=x:=by simpa [Value.ownBlock] using hx
    rcases hG with e2 | e2<;>omega
  clear ba b2 ba2 bb2 s2 d2 BR0 hs1;go_wp2
  go_loopw [6,15] (fun v6 v15 wr => ∃ (j:Nat) (T:List (List Rat)) (us':List Value) (ps:List Nat) (d:Rat) (u t:Value),j<=pl/\Hid (Dwn T0 T n C j ps d S)/\zD7 .u64 4294967296 wr g 44 us' T/\zC8 isI wr w.heap.size 3 v6 (pI ps)/\Blk wr w2.heap.size 83 #[.bool (ngB d.num),u,t]/\IsS wr .u64 u (digs 4294967296 d.num.natAbs)/\IsS wr .u64 t (digs 4294967296 d.den)/\Blk wr w.heap.size 83 #[.bool false,.slice none 0 0,.slice none 0 0]/\Hid (zC2 d (1+400*ps.length))/\Hid (w.grownBy wr (some g))/\Hid (0<C->zM3 us' (fun x=>x=w.heap.size\/x=w2.heap.size))/\v15=.int .i64 (j:Int)) (fun _ v15 _=>pl-(intOf v15).toNat)
  case atStart=>exact ⟨0,T0,us,[],O,_,_,by omega,HD0,TS0,qW3 _ _ _ _,BP0,s20,d20,BR1,HL0,HG0,HO0,rfl⟩
  case round =>
    clear TS0 BP0 s20 d20 BR1 HL0 HG0 HD0 HO0 CO HO;obtain ⟨j,T,us',ps,d,u,t,hj,HD,TS,RP,BP,su,st,BR,HLD,HG,HOF,rfl⟩:=hrel;obtain ⟨Au,cu,rfl,_⟩:=id su;obtain ⟨At,ct,rfl,_⟩:=id st;by_cases hlt:j<pl
    · obtain ⟨A6, c6, e6⟩ := zD.slice RP.1;rw [zN5] at e6;subst e6;have hkn : ps.length <= n:=HD.out.ech.le;by_cases hk:ps.length<n
      · have hnk:¬ n=ps.length:=by omega
        have hTl:T.length=n:=HD.out.sh.1;have SL:=TS.sub (o:=ps.length) (m:=n-ps.length) (c:=n-ps.length) (by omega) (zB1 _) (by unfold maxLen;omega);have hj:j<C:=by omega
        have HSH:=hQ9 HD.out.sh;go_wp2_with fail
        refine (yJ4 _ _ j _ SL (fun r hr=>by rw [HSH.out.2 r (List.mem_of_mem_drop (List.mem_of_mem_take hr))];omega)).mono ?_;rintro e w4 ⟨f,rfl,hf,hz,hnz,b4⟩;have hLl:((T.drop ps.length).take (n-ps.length)).length=n-ps.length:=by rw [bQ7,bX2];omega
        have hent:∀ i,i<n-ps.length->zB6 ((T.drop ps.length).take (n-ps.length)) i j=zB6 T (ps.length+i) j:=fun i hi=>by
          have e:((T.drop ps.length).take (n-ps.length)).getD i []=T.getD (ps.length+i) []:=by rw [zA6,List.getElem?_take_of_lt hi,bW9,zA6]
          unfold zB6;rw [e]
        rw [hLl] at hf hnz;have TS4:=TS.bQ b4;have RP4:=RP.bQ b4;have BP4:=BP.bQ b4;have su4:=su.bQ b4;have st4:=st.bQ b4;have BR4:=BR.bQ b4;have HG4:Hid (w.grownBy w4 (some g)):=zL HG.out b4;clear TS RP BP su st BR HG SL;by_cases hfl:f<n-ps.length
        · have hne:zB6 T (ps.length+f) j≠0:=by rw [<- hent f hfl];exact hnz hfl
          have HNE:=hQ9 hne;clear hz hnz hent hne hLl
          go_upto_if 30 with (fail)
          have hb28:((f:Int) == ((n-ps.length:Nat):Int))=false:=by rw [beq_eq_false_iff_ne];omega
          obtain ⟨B30,hB⟩:∃ B,B=decide (0<f):=⟨_,rfl⟩;rw [hb28,<- hB];have HB:=hQ9 hB;clear hb28 hB
          go_cut [] from 31 to 44 (fun wx => ∃ (us2:List Value) (d2:Rat) (u2 t2:Value),zD7 .u64 4294967296 wx g 44 us2 (zG4 T ps.length (ps.length+f))/\Hid (zM3 us2 (fun x=>x=w.heap.size\/x=w2.heap.size))/\zC8 isI wx w.heap.size 3 (.slice A6 ps.length c6) (pI ps)/\Blk wx w2.heap.size 83 #[.bool (ngB d2.num),u2,t2]/\IsS wx .u64 u2 (digs 4294967296 d2.num.natAbs)/\IsS wx .u64 t2 (digs 4294967296 d2.den)/\Blk wx w.heap.size 83 #[.bool false,.slice none 0 0,.slice none 0 0]/\Hid (d2=if ps.length+f=ps.length then d else -d)/\Hid (w.grownBy wx (some g)))
          case first =>
            by_cases hf0:f=0
            · subst hf0;have hb:B30=false:=HB.out;subst hb;have e1:zG4 T ps.length (ps.length+0)=T:=jC7 (by omega);have e2:d=if ps.length+0=ps.length then d else -d:=(if_pos rfl).symm
              go_wp2_with fail
              go_meet
              exact ⟨us',d,_,_,by rw [e1];exact TS4,HOF.out (by omega),RP4,BP4,su4,st4,BR4,e2,HG4.out⟩
            · have hb:B30=true:=by rw [HB.out];exact decide_eq_true (by omega)
              subst hb;obtain ⟨rk,hrk,hrkl⟩:=zI0 HSH.out (show ps.length<n by omega);obtain ⟨rf,hrf,hrfl⟩:=zI0 HSH.out (show ps.length+f<n by omega);obtain ⟨Ak,ck,huk,eck,srk⟩:=TS4.at_ hrk;obtain ⟨Af,cf,huf,ecf,srf⟩:=TS4.at_ hrf;have fk:=TS4.frozenAt ps.length;have ff:=TS4.frozenAt (ps.length+f);have hpos:0<n-ps.length:=by omega
              go_upto_region 10 with (fail)
              go_region
              all_goals
                have TS5:=TS4.stored ps.length srf;have srk5:=TS4.1.keepF (zE9 w4 g ps.length (.slice Af rf.length cf)) srk;have TS6:=TS5.stored (ps.length+f) srk5;rw [show (T.set ps.length rf).set (ps.length+f) rk=zG4 T ps.length (ps.length+f) by unfold zG4;rw [zJ2 hrk,zJ2 hrf]] at TS6;have G8:=zL ((zE9 w4 g ps.length (.slice Af rf.length cf)).trans (zE9 _ g (ps.length+f) (.slice Ak rk.length ck))) (Below.refl _ ((w4.setCell ⟨g,ps.length,none⟩ (.slice Af rf.length cf)).setCell ⟨g,ps.length+f,none⟩ (.slice Ak rk.length ck))).drew;have TS8:=TS6.bQ (Below.refl _ _).drew;have HO8:Hid (zM3 ((us'.set ps.length (.slice Af rf.length cf)).set (ps.length+f) (.slice Ak rk.length ck)) (fun x=>x=w.heap.size\/x=w2.heap.size)):=((HOF.out (by omega)).set (fun x hx=>HOF.out (by omega) _ (zA5 huf) x hx) ps.length).set (fun x hx=>HOF.out (by omega) _ (zA5 huk) x hx) (ps.length+f);have RP8:=RP4.grown G8 (fun x e1 e2=>RP4.notTab TS4.1 (by decide) (by rw [e1,e2]));have BP8:=Blk.grown BP4 G8 (by omega);have BR8:=Blk.grown BR4 G8 (by omega);have su8:=TS4.1.keep G8 su4;have st8:=TS4.1.keep G8 st4;have HG8:Hid (w.grownBy _ (some g)):=HG4.out.trans G8;have kd:IsQ _ (.agg #[.bool (ngB d.num),.slice Au (digs 4294967296 d.num.natAbs).length cu,.slice At (digs 4294967296 d.den).length ct]) d:=⟨_,_,rfl,su8,st8⟩;obtain ⟨V0,V1,V2,_,_,_⟩:=three BP8;have HLd:Hid (zC2 d 100000):=HLD.out.mono (by have:=HD.out.ech.le;omega);clear TS5 TS6 srk5 G8 TS4 RP4 BP4 BR4 su4 st4 HG4 srk srf eck ecf fk ff su8 st8;rw [hrfl,hrkl] at *;obtain ⟨M,hM⟩:∃ M,M = -d:=⟨_,rfl⟩;have CN:∀ w a,IsQ w a d->Calls prog 126 #[a] w (RetQ M w):=fun w a h=>by rw [hM];exact qT a d w h HLd.out
                have HM:=hQ9 hM;clear hM;go_wp2_with fail
                refine (CN _ _ kd).mono ?_;rintro e w9 ⟨v9,rfl,k9,-,b9⟩;obtain ⟨u9,t9,rfl,s9,d9⟩:=k9;obtain ⟨A9,c9,rfl,_⟩:=id s9;obtain ⟨D9,e9,rfl,_⟩:=id d9;have BP9:=BP8.bQ b9;obtain ⟨X0,X1,X2,F0,F1,F2⟩:=three BP9;have G10:=qC w9 w2.heap.size (.bool (ngB M.num)) (.slice A9 (digs 4294967296 M.num.natAbs).length c9) (.slice D9 (digs 4294967296 M.den).length e9);have B10:=zZ1 BP9 (.bool (ngB M.num)) (.slice A9 (digs 4294967296 M.num.natAbs).length c9) (.slice D9 (digs 4294967296 M.den).length e9);have TS10:=(TS8.bQ b9).offQ (qG6 HSH.out (by omega) (by omega)) BP9 (no3 _) (by decide) G10 (fun hC0 u hu e=>HO8.out u hu _ e (.inr rfl));have RP10:=(RP8.bQ b9).grown G10 (fun x e1 e2=>(RP8.bQ b9).notBlk BP9 (by decide) x e1 e2);have BR10:=Blk.grown (BR8.bQ b9) G10 (by omega);have s10:=flow.off s9 BP9 (no3 _) G10;have d10:=flow.off d9 BP9 (no3 _) G10;have HG10:Hid (w.grownBy _ (some g)):=zW9 (zL HG8.out b9) G10 (by omega);have E2:Hid (M=if ps.length+f=ps.length then d else -d):=HM.out.trans (if_neg (by omega)).symm;clear TS8 RP8 BP8 BR8 BP9 s9 d9 kd;go_wp2
                go_meet
                exact ⟨_,M,_,_,TS10,HO8,RP10,B10,s10,d10,BR10,E2,HG10.out⟩
          case rest =>
            obtain ⟨us2,d2,u2,t2,TS5,HO5,RP5,BP5,su5,st5,BR5,HD2,HG5⟩:=hcut;obtain ⟨w5,hw5⟩:∃ w5,w5=wc:=⟨_,rfl⟩;subst hw5;clear TS4 RP4 BP4 su4 st4 BR4 HG4 HOF HB;obtain ⟨T1,hT1⟩:∃ T1,T1=zG4 T ps.length (ps.length+f):=⟨_,rfl⟩;rw [<- hT1] at TS5;have hs1:shp T1 n C:=by rw [hT1];exact qG6 HSH.out (by omega) (by omega)
            obtain ⟨r1,hr1,hrl1,hq1⟩:=zR8 hs1 hk hj;obtain ⟨q1,hqe⟩:∃ q1,q1=zB6 T1 ps.length j:=⟨_,rfl⟩;rw [<- hqe] at hq1
            have hqf:q1=zB6 T (ps.length+f) j:=by
              rw [hqe,hT1,qN7 HSH.out (by omega) (by omega)];exact congrFun (if_pos rfl) j
            have hq0:q1≠0:=by rw [hqf];exact HNE.out
            have hR1:zG0 T1 399:=by rw [hT1];exact qU9 HSH.out (by omega) (by omega) (HD.out.small hc.out.2.2.2.2.2)
            have hLr:zK8 r1 399:=hR1 r1 (zA5 hr1);obtain ⟨Dn,hDn⟩:∃ Dn,Dn=d2*q1:=⟨_,rfl⟩;obtain ⟨X,hX⟩:∃ X,X=q1⁻¹:=⟨_,rfl⟩;have hLX:zC2 X 399:=by rw [hX];exact yD2 hq0 (hLr.len q1 (zA5 hq1))
            have hL2:zC2 d2 (1+400*ps.length):=by
              rw [HD2.out];by_cases e:ps.length+f=ps.length
              · rw [if_pos e];exact HLD.out
              · rw [if_neg e];exact qL5 HLD.out
            have hLn:zC2 Dn (1+400*(ps.length+1)):=by rw [hDn];exact (qA6 hL2 (hLr.len q1 (zA5 hq1))).mono (by omega)
            obtain ⟨Au2,cu2,rfl,_⟩:=id su5;obtain ⟨At2,ct2,rfl,_⟩:=id st5;have CM:∀ w a b,IsQ w a d2->IsQ w b q1->Calls prog 127 #[a,b] w (RetQ Dn w):=fun w a b h1 h2=>by rw [hDn];exact qO3 a d2 b q1 w h1 h2 (hL2.mono (by omega)) ((hLr.len q1 (zA5 hq1)).mono (by omega))
            have CV:∀ w a,IsQ w a q1->Calls prog 128 #[a] w (zU6 X 0 w):=fun w a h1=>by rw [hX];exact inv8_ok a q1 w h1 ((hLr.len q1 (zA5 hq1)).mono (by omega)) hq0
            have HE:=hQ9 (zA hT1 (zA hs1 (zA hr1 (zA hrl1 (zA hq1 (zA hqe (zA hqf (zA hq0 (zA hR1 (zA hDn (zA hX (zA hLX hLn))))))))))));have HLR:=hQ9 hLr;clear hT1 hs1 hqe hqf hq0 hR1 hDn hX hLX hLn hL2 hLr hrl1;have bd:=(Below.refl w5.heap.size w5).drew;have TSd:=TS5.bQ bd;have RPd:=RP5.bQ bd;have BPd:=BP5.bQ bd;have sud:=su5.bQ bd;have std:=st5.bQ bd;have BRd:=BR5.bQ bd;have HGd:Hid (w.grownBy w5.drew (some g)):=zL HG5.out bd;obtain ⟨Ar,cr,hur,ecr,sr⟩:=TSd.at_ hr1;obtain ⟨gr,or,uq,tq,rfl,hia,k0,k1,k2,sq,dq⟩:=sr.at_ hq1;obtain ⟨Aq,cq,rfl,_⟩:=id sq;obtain ⟨Dq,eq,rfl,_⟩:=id dq;have hix:=fun w=>zG6 (P:=prog) underlying44 (by kernel_rfl) (g:=gr) (o:=or) (c:=cr) hia w;have kq:IsQ w5.drew (.agg #[.bool (ngB q1.num),.slice Aq (digs 4294967296 q1.num.natAbs).length cq,.slice Dq (digs 4294967296 q1.den).length eq]) q1:=⟨_,_,rfl,sq,dq⟩;have kd:IsQ w5.drew (.agg #[.bool (ngB d2.num),.slice Au2 (digs 4294967296 d2.num.natAbs).length cu2,.slice At2 (digs 4294967296 d2.den).length ct2]) d2:=⟨_,_,rfl,sud,std⟩;obtain ⟨V0,V1,V2,_,_,_⟩:=three BPd;have hpos:0<n-ps.length:=by omega
            clear TS5 RP5 BP5 su5 st5 BR5 HG5 bd sr hr1 hq1;go_upto_region 12 with (fail)
            go_cut [] from 45 to 52 (fun wx => ∃ u3 t3:Value,zD7 .u64 4294967296 wx g 44 us2 T1/\zC8 isI wx w.heap.size 3 (.slice A6 ps.length c6) (pI ps)/\Blk wx w2.heap.size 83 #[.bool (ngB Dn.num),u3,t3]/\IsS wx .u64 u3 (digs 4294967296 Dn.num.natAbs)/\IsS wx .u64 t3 (digs 4294967296 Dn.den)/\Blk wx w.heap.size 83 #[.bool false,.slice none 0 0,.slice none 0 0]/\Hid (w.grownBy wx (some g)))
            case first =>
             go_region_law (go_simp;go_at_call 127;refine (CM _ _ _ (by exact kd) (by exact kq)).mono ?_;rintro e w6 ⟨v6,rfl,k6,-,b6⟩;obtain ⟨u6,t6,rfl,s6,d6⟩:=k6;obtain ⟨A7,c7,rfl,_⟩:=id s6;obtain ⟨D7,e7,rfl,_⟩:=id d6;have BP6:=BPd.bQ b6;obtain ⟨X0,X1,X2,F0,F1,F2⟩:=three BP6)
             all_goals
              have G7:=qC w6 w2.heap.size (.bool (ngB Dn.num)) (.slice A7 (digs 4294967296 Dn.num.natAbs).length c7) (.slice D7 (digs 4294967296 Dn.den).length e7);have B7:=zZ1 BP6 (.bool (ngB Dn.num)) (.slice A7 (digs 4294967296 Dn.num.natAbs).length c7) (.slice D7 (digs 4294967296 Dn.den).length e7);have TS7:=(TSd.bQ b6).offQ HE.out.2.1 BP6 (no3 _) (by decide) G7 (fun hC0 u hu e=>HO5.out u hu _ e (.inr rfl));have RP7:=(RPd.bQ b6).grown G7 (fun x e1 e2=>(RPd.bQ b6).notBlk BP6 (by decide) x e1 e2);have BR7:=Blk.grown (BRd.bQ b6) G7 (by omega);have s7:=flow.off s6 BP6 (no3 _) G7;have d7:=flow.off d6 BP6 (no3 _) G7;have HG7:Hid (w.grownBy _ (some g)):=zW9 (zL HGd.out b6) G7 (by omega);clear TSd RPd BPd BRd HGd BP6 s6 d6 kq kd sud std sq dq k0 k1 k2 ecr hix hur V0 V1 V2;go_wp2
              go_meet
              exact ⟨_,_,TS7,RP7,B7,s7,d7,BR7,HG7⟩
            case rest =>
              obtain ⟨u3,t3,TS7,RP7,BP7,su7,st7,BR7,HG7⟩:=hcut;obtain ⟨w7,hw7⟩:∃ w7,w7=wc:=⟨_,rfl⟩;subst hw7;clear TSd RPd BPd BRd HGd kq kd sud std sq dq k0 k1 k2 ecr hix hur V0 V1 V2 CM;obtain ⟨Ar,cr,hur,ecr,sr⟩:=TS7.at_ HE.out.2.2.1;obtain ⟨gr,or,uq,tq,rfl,hia,k0,k1,k2,sq,dq⟩:=sr.at_ HE.out.2.2.2.2.1;obtain ⟨Aq,cq,rfl,_⟩:=id sq;obtain ⟨Dq,eq,rfl,_⟩:=id dq;have hix:=fun w=>zG6 (P:=prog) underlying44 (by kernel_rfl) (g:=gr) (o:=or) (c:=cr) hia w;have kq:IsQ w7 (.agg #[.bool (ngB q1.num),.slice Aq (digs 4294967296 q1.num.natAbs).length cq,.slice Dq (digs 4294967296 q1.den).length eq]) q1:=⟨_,_,rfl,sq,dq⟩;clear sr
              go_wp2_with fail
              refine (CV _ _ kq).mono ?_;rintro e w8 ⟨v8,rfl,k8,-,b8⟩;obtain ⟨u8,t8,rfl,s8,d8⟩:=k8;obtain ⟨A8,c8,rfl,_⟩:=id s8;obtain ⟨D8,e8,rfl,_⟩:=id d8;have ba:=zC6 (w:=w8) (zB1 _) (.cells #[.bool (ngB X.num),.slice A8 (digs 4294967296 X.num.natAbs).length c8,.slice D8 (digs 4294967296 X.den).length e8] 83);have BU:=Blk.new w8 83 #[.bool (ngB X.num),.slice A8 (digs 4294967296 X.num.natAbs).length c8,.slice D8 (digs 4294967296 X.den).length e8];have bb:=b8.trans (ba.mono b8.size);have bd:=(Below.refl (w8.alloc (.cells #[.bool (ngB X.num),.slice A8 (digs 4294967296 X.num.natAbs).length c8,.slice D8 (digs 4294967296 X.den).length e8] 83)).heap.size (w8.alloc (.cells #[.bool (ngB X.num),.slice A8 (digs 4294967296 X.num.natAbs).length c8,.slice D8 (digs 4294967296 X.den).length e8] 83))).drew;have bb9:=bb.trans (bd.mono bb.size);have TS9:=TS7.bQ bb9;have RP9:=RP7.bQ bb9;have BP9:=BP7.bQ bb9;have su9:=su7.bQ bb9;have st9:=st7.bQ bb9;have BR9:=BR7.bQ bb9;have HG9:Hid (w.grownBy _ (some g)):=zL HG7.out bb9;have BU9:=BU.bQ bd;obtain ⟨V0,V1,V2,_,_,_⟩:=three BU9;have kX:IsQ _ (.agg #[.bool (ngB X.num),.slice A8 (digs 4294967296 X.num.natAbs).length c8,.slice D8 (digs 4294967296 X.den).length e8]) X:=⟨_,_,rfl,s8.bQ (ba.trans (bd.mono ba.size)),d8.bQ (ba.trans (bd.mono ba.size))⟩;obtain ⟨Ar2,cr2,hur2,ecr2,sr2⟩:=TS9.at_ HE.out.2.2.1;have HLS:Hid (r1.length<=1000/\(∀ x∈r1,zC2 x 399)/\zC2 X 399/\399<=4900/\399<=4900):=⟨by rw [HE.out.2.2.2.1];exact hC,HLR.out.len,HE.out.2.2.2.2.2.2.2.2.2.2.2.1,by omega,by omega⟩
              have HNL:Hid ((zF1 r1 X).length<=1000000000):=by
                show _<=_
                rw [qB0];have:=HLS.out.1;omega
              have hkl:ps.length<T1.length:=by rw [HE.out.2.1.1];exact hk
              clear TS7 RP7 BP7 su7 st7 BR7 HG7 ba BU bb bd bb9 s8 d8 kq sq dq k0 k1 k2 ecr hix hur CV;go_upto_region 14 with (fail)
              go_cut [] from 63 to 69 (fun wx => ∃ us3:List Value,zD7 .u64 4294967296 wx g 44 us3 (T1.set ps.length (zF1 r1 X))/\Hid (zM3 us3 (fun x=>x=w.heap.size\/x=w2.heap.size))/\zC8 isI wx w.heap.size 3 (.slice A6 ps.length c6) (pI ps)/\Blk wx w2.heap.size 83 #[.bool (ngB Dn.num),u3,t3]/\IsS wx .u64 u3 (digs 4294967296 Dn.num.natAbs)/\IsS wx .u64 t3 (digs 4294967296 Dn.den)/\Blk wx w.heap.size 83 #[.bool false,.slice none 0 0,.slice none 0 0]/\Hid (w.grownBy wx (some g)))
              case first =>
                go_region_law (go_simp;go_at_call 129;refine (jE9 _ _ r1 X 399 399 _ (by exact sr2) (by exact kX) HLS.out).mono ?_;rintro e w10 ⟨gn,rfl,RNn,hgn,b10⟩;have sR:=RNn.sl rfl HNL.out;have TS10:=TS9.bQ b10;obtain ⟨u0,c10⟩:=TS10.cellAt (i:=ps.length) hkl;have f10:=TS10.frozenAt ps.length)
                all_goals
                  have TS11:=TS10.stored ps.length sR;have G11:=zE9 w10 g ps.length (.slice (some ⟨gn,0,none⟩) (zF1 r1 X).length (zF1 r1 X).length);have hb10:=b10.size
                  have HO11:Hid (zM3 (us2.set ps.length (.slice (some ⟨gn,0,none⟩) (zF1 r1 X).length (zF1 r1 X).length)) (fun x=>x=w.heap.size\/x=w2.heap.size)):=HO5.out.set (fun x hx hG=>by
                    have h1:gn=x:=by simpa [Value.ownBlock] using hx
                    have h2:=BP9.lt;have h3:=BR9.lt;rcases hG with e | e<;>omega) ps.length
                  have RP11:=(RP9.bQ b10).grown G11 (fun x e1 e2=>(RP9.bQ b10).notTab TS10.1 (by decide) (by rw [e1,e2]));have BP11:=Blk.grown (BP9.bQ b10) G11 (by omega);have BR11:=Blk.grown (BR9.bQ b10) G11 (by omega);have su11:=TS10.1.keep G11 (su9.bQ b10);have st11:=TS10.1.keep G11 (st9.bQ b10);have HG11:Hid (w.grownBy _ (some g)):=(zL HG9.out b10).trans G11;clear TS9 RP9 BP9 su9 st9 BR9 HG9 TS10 sR kX sr2;go_wp2
                  go_meet
                  exact ⟨_,TS11,HO11,RP11,BP11,su11,st11,BR11,HG11⟩
              case rest =>
                obtain ⟨us3,TS9',HO9,RP9',BP9',su9',st9',BR9',HG9'⟩:=hcut;obtain ⟨w9,hw9⟩:∃ w9,w9=wc:=⟨_,rfl⟩;subst hw9;clear TS9 RP9 BP9 su9 st9 BR9 HG9 BU9 V0 V1 V2 kX hur2 ecr2 sr2 HNL HLS HO5;obtain ⟨T2,hT2⟩:∃ T2,T2=T1.set ps.length (zF1 r1 X):=⟨_,rfl⟩;rw [<- hT2] at TS9'
                have eT2:T2=zN4 (zG4 T ps.length (ps.length+f)) ps.length (zB6 (zG4 T ps.length (ps.length+f)) ps.length j)⁻¹:=by
                  rw [hT2,zN4,<- HE.out.1,zJ2 HE.out.2.2.1,HE.out.2.2.2.2.2.2.2.2.2.2.1,HE.out.2.2.2.2.2.1]
                have hs2:shp T2 n C:=by rw [hT2];exact qB6 HE.out.2.1 (by rw [qB0];exact HE.out.2.2.2.1)
                have hp2:T2[ps.length]?=some (zF1 r1 X):=by rw [hT2];exact bQ3 hkl
                have hR2:zG0 T2 399:=by
                  rw [hT2];intro x hx;rcases bW3 hx with hx | rfl
                  · exact HE.out.2.2.2.2.2.2.2.2.1 x hx
                  · rw [HE.out.2.2.2.2.2.2.2.2.2.2.1];exact HLR.out.scale (zA5 HE.out.2.2.2.2.1) HE.out.2.2.2.2.2.2.2.1
                have HPV:Hid (zF7 T2 (fun i=>decide (ps.length<i)) (zF1 r1 X) j n=zJ7 T (fun i=>decide (ps.length<i)) ps.length (ps.length+f) j n):=by
                  show _=_
                  unfold zJ7;rw [<- eT2,zJ2 hp2]
                have HDN:Hid (Dwn T0 (zJ7 T (fun i=>decide (ps.length<i)) ps.length (ps.length+f) j n) n C (j+1) (ps ++ [j]) Dn S):=by
                  have h1:=HD.out.pivot hj (show ps.length<=ps.length+f by omega) (show ps.length+f<n by omega) HNE.out;have h2:Dn=(if ps.length+f=ps.length then d else -d)*zB6 T (ps.length+f) j:=by rw [HE.out.2.2.2.2.2.2.2.2.2.1,HD2.out,HE.out.2.2.2.2.2.2.1]
                  show Dwn _ _ _ _ _ _ _ _
                  rw [h2];exact h1
                have HLL:Hid (zC2 Dn (1+400*(ps ++ [j]).length)):=by
                  show zC2 _ _
                  rw [zA8];exact HE.out.2.2.2.2.2.2.2.2.2.2.2.2
                have HPS:Hid (pI ps ++ [.int .i64 (j:Int)]=pI (ps ++ [j])):=qP ps j;have HRP2:Hid (zK8 (zF1 r1 X) 399):=hR2 _ (zA5 hp2);have hpl2:Hid ((zF1 r1 X).length=C):=hs2.2 _ (zA5 hp2);have H2:=hQ9 (zA hs2 (zA hp2 hR2));have bd:=(Below.refl w9.heap.size w9).drew;have TSd:=TS9'.bQ bd;obtain ⟨Ap,cp,hup,ecp,sp⟩:=TSd.at_ hp2
                have CC:∀ o m:Nat,o+m=n\/m=0->ps.length<=o->o<=n->(m=0->n=ps.length+1)->(m≠0->o=ps.length+1)->Calls prog 130 #[.slice (some ⟨g,o,none⟩) m m,.slice Ap (zF1 r1 X).length cp,.int .i64 (j:Int)] w9.drew (qO9 g us3 (zJ7 T (fun i=>decide (ps.length<i)) ps.length (ps.length+f) j n) w9.drew):=fun o m h1 h2 h3 h4 h5=>by
                  have hc1:=yJ5 g o m m j n C 399 us3 _ (zF1 r1 X) T2 (fun i=>decide (ps.length<i)) w9.drew TSd sp ⟨H2.out.1,hpl2.out,hj,by omega,zB1 _,by omega,hC,fun i hi=>by simp;omega,fun i h6 h7=>by simp;omega,H2.out.2.2,HRP2.out,fun _=>by omega⟩
                  have e:zF7 T2 (fun i=>decide (ps.length<i)) (zF1 r1 X) j (o+m)=zJ7 T (fun i=>decide (ps.length<i)) ps.length (ps.length+f) j n:=by
                    rw [<- HPV.out];rcases h1 with h1 | h1
                    · rw [h1]
                    · subst h1;have h6:=h4 rfl;rw [qG9 (o+0) (fun i hi=>by simp;omega),qG9 n (fun i hi=>by simp;omega)]
                  rwa [e] at hc1
                have RPd:=RP9'.bQ bd;have BPd:=BP9'.bQ bd;have sud:=su9'.bQ bd;have std:=st9'.bQ bd;have BRd:=BR9'.bQ bd;have HGd:Hid (w.grownBy w9.drew (some g)):=zL HG9'.out bd;have h1m:(1:Int)<=((n-ps.length:Nat):Int):=by omega
                clear TS9' RP9' BP9' su9' st9' BR9' HG9' hT2 eT2 hs2 hp2 hR2 hup;by_cases hm2:n-ps.length=1
                · have HM2:=hQ9 hm2;have hcc:=CC ps.length 0 (.inr rfl) (zB1 _) (by omega) (fun _=>by omega) (fun e=>absurd rfl e);go_upto_region 15 with (fail)
                  go_region_law (go_simp;go_at_call 130;refine hcc.mono ?_;rintro e w10 ⟨rfl,us4,TS10,G10,ST10⟩)
                  all_goals
                    have RP10:=RPd.grown G10 (fun x e1 e2=>RPd.notTab TSd.1 (by decide) (by rw [e1,e2]));have BP10:=Blk.grown BPd G10 (by omega);have BR10:=Blk.grown BRd G10 (by omega);have su10:=TSd.1.keep G10 sud;have st10:=TSd.1.keep G10 std;have HG10:Hid (w.grownBy w10 (some g)):=HGd.out.trans G10
                    have HO10:Hid (zM3 us4 (fun x=>x=w.heap.size\/x=w2.heap.size)):=ST10 _ (fun x hx=>by
                      have h2:=BPd.lt;have h3:=BRd.lt;rcases hx with rfl|rfl
                      · exact h3
                      · exact h2) HO9.out
                    have ba:=zC6 (w:=w10) (zB1 _) (.cells #[.int .i64 (j:Int)] 3);have RP11:=RP10.bQ ba;have TS11:=TS10.bQ ba;have BP11:=BP10.bQ ba;have BR11:=BR10.bQ ba;have su11:=su10.bQ ba;have st11:=st10.bQ ba;have HG11:Hid (w.grownBy _ (some g)):=zL HG10.out ba;have hbase:w.heap.size<=(w10.alloc (.cells #[.int .i64 (j:Int)] 3)).heap.size:=zB2 HG10.out.size ba.size;have hone:=cell_one_new w10 (.int .i64 (j:Int)) 3;have hlp:(pI ps).length+1<=1000000000:=by rw [zN5];omega
                    clear TSd RPd BPd BRd sud std HGd G10 TS10 RP10 BP10 BR10 su10 st10 HG10 ba ST10 ecp sp CC
                    go_wp2_with (at_builtin;refine qH7 rfl (.tmp 77) (.tmp 79) rfl underlying36 info_int rfl RP11 rfl rfl (by decide) hone (fun u hu=>by (obtain rfl:=List.mem_singleton.1 hu;exact ⟨_,rfl⟩)) hlp hbase ?_;intro v12 w12 RP12 HG12 HX12)
                    have TS13:=TS11.keepX RP11 (RP11.notTab TS11.1 (by decide)) HG12.out;have BP13:=RP11.keepBlk BP11 (by decide) HG12.out;have BR13:=RP11.keepBlk BR11 (by decide) HG12.out;have su13:=RP11.keepS HG12.out su11;have st13:=RP11.keepS HG12.out st11;have HG13:Hid (w.grownBy w12 (some g)):=yJ6 HG11.out HG12.out (fun x e=>RP11.1.base_le x e);rw [HPS.out] at RP12;clear TS11 RP11 BP11 BR11 su11 st11 HG11 hone;go_wp2;go_roundw;case rel=>exact ⟨j+1,_,us4,ps ++ [j],Dn,_,_,by omega,HDN,TS13,RP12,BP13,su13,st13,BR13,HLL,HG13,fun _=>HO10.out,by go_num⟩
                    case measure=>simp [intOf];omega
                · have hcc:=CC (ps.length+1) (n-ps.length-1) (.inl (by omega)) (by omega) (by omega) (fun e=>by omega) (fun _=>rfl);go_upto_region 15 with (fail)
                  go_region_law (go_simp;go_at_call 130;refine hcc.mono ?_;rintro e w10 ⟨rfl,us4,TS10,G10,ST10⟩)
                  all_goals
                    have RP10:=RPd.grown G10 (fun x e1 e2=>RPd.notTab TSd.1 (by decide) (by rw [e1,e2]));have BP10:=Blk.grown BPd G10 (by omega);have BR10:=Blk.grown BRd G10 (by omega);have su10:=TSd.1.keep G10 sud;have st10:=TSd.1.keep G10 std;have HG10:Hid (w.grownBy w10 (some g)):=HGd.out.trans G10
                    have HO10:Hid (zM3 us4 (fun x=>x=w.heap.size\/x=w2.heap.size)):=ST10 _ (fun x hx=>by
                      have h2:=BPd.lt;have h3:=BRd.lt;rcases hx with rfl|rfl
                      · exact h3
                      · exact h2) HO9.out
                    have ba:=zC6 (w:=w10) (zB1 _) (.cells #[.int .i64 (j:Int)] 3);have RP11:=RP10.bQ ba;have TS11:=TS10.bQ ba;have BP11:=BP10.bQ ba;have BR11:=BR10.bQ ba;have su11:=su10.bQ ba;have st11:=st10.bQ ba;have HG11:Hid (w.grownBy _ (some g)):=zL HG10.out ba;have hbase:w.heap.size<=(w10.alloc (.cells #[.int .i64 (j:Int)] 3)).heap.size:=zB2 HG10.out.size ba.size;have hone:=cell_one_new w10 (.int .i64 (j:Int)) 3;have hlp:(pI ps).length+1<=1000000000:=by rw [zN5];omega
                    clear TSd RPd BPd BRd sud std HGd G10 TS10 RP10 BP10 BR10 su10 st10 HG10 ba ST10 ecp sp CC
                    go_wp2_with (at_builtin;refine qH7 rfl (.tmp 77) (.tmp 79) rfl underlying36 info_int rfl RP11 rfl rfl (by decide) hone (fun u hu=>by (obtain rfl:=List.mem_singleton.1 hu;exact ⟨_,rfl⟩)) hlp hbase ?_;intro v12 w12 RP12 HG12 HX12)
                    have TS13:=TS11.keepX RP11 (RP11.notTab TS11.1 (by decide)) HG12.out;have BP13:=RP11.keepBlk BP11 (by decide) HG12.out;have BR13:=RP11.keepBlk BR11 (by decide) HG12.out;have su13:=RP11.keepS HG12.out su11;have st13:=RP11.keepS HG12.out st11;have HG13:Hid (w.grownBy w12 (some g)):=yJ6 HG11.out HG12.out (fun x e=>RP11.1.base_le x e);rw [HPS.out] at RP12;clear TS11 RP11 BP11 BR11 su11 st11 HG11 hone;go_wp2;go_roundw;case rel=>exact ⟨j+1,_,us4,ps ++ [j],Dn,_,_,by omega,HDN,TS13,RP12,BP13,su13,st13,BR13,HLL,HG13,fun _=>HO10.out,by go_num⟩
                    case measure=>simp [intOf];omega
        · obtain rfl:f=n-ps.length:=by omega
          have HD5:Hid (Dwn T0 T n C (j+1) ps d S):=HD.out.skip fun i h1 h2=>by
            have h3:=hz (i-ps.length) (by omega);rw [hent _ (by omega),show ps.length+(i-ps.length)=i by omega] at h3;exact h3
          clear hz hnz hent hLl;go_wp2;go_roundw;case rel=>exact ⟨j+1,T,us',ps,d,_,_,by omega,HD5,TS4,RP4,BP4,su4,st4,BR4,HLD,HG4,HOF,by go_num⟩
          case measure=>simp [intOf];omega
      · have hn0:n-ps.length=0:=by omega
        have SL:=TS.sub (o:=0) (m:=0) (c:=0) (by omega) (zB1 _) (by unfold maxLen;omega);go_wp2_with fail
        refine (yJ4 _ _ j _ SL (fun r hr=>by simp at hr)).mono ?_;rintro e w4 ⟨f,rfl,hf,-,-,b4⟩;obtain rfl:f=0:=by simpa using hf
        have TS4:=TS.bQ b4;have RP4:=RP.bQ b4;have BP4:=BP.bQ b4;have su4:=su.bQ b4;have st4:=st.bQ b4;have BR4:=BR.bQ b4;have HG4:Hid (w.grownBy w4 (some g)):=zL HG.out b4;have HD5:Hid (Dwn T0 T n C (j+1) ps d S):=HD.out.skip fun i h1 h2=>by omega
        clear TS RP BP su st BR HG SL;go_wp2;go_roundw;case rel=>exact ⟨j+1,T,us',ps,d,_,_,by omega,HD5,TS4,RP4,BP4,su4,st4,BR4,HLD,HG4,HOF,by go_num⟩
        case measure=>simp [intOf];omega
    · obtain rfl:j=pl:=by omega
      obtain ⟨V0,V1,V2,_,_,_⟩:=three BP;obtain ⟨R0,R1,R2,F0,F1,F2⟩:=three BR;have G9:=qC wr w.heap.size (.bool (ngB d.num)) (.slice Au (digs 4294967296 d.num.natAbs).length cu) (.slice At (digs 4294967296 d.den).length ct);have B9:=zZ1 BR (.bool (ngB d.num)) (.slice Au (digs 4294967296 d.num.natAbs).length cu) (.slice At (digs 4294967296 d.den).length ct);have TS9:=TS.offQ HD.out.sh BR (no3 _) (by decide) G9 (fun hC0 u hu e=>HOF.out hC0 u hu _ e (.inl rfl));have RP9:=RP.grown G9 (fun x e1 e2=>RP.notBlk BR (by decide) x e1 e2);have s9:=flow.off su BR (no3 _) G9;have d9:=flow.off st BR (no3 _) G9;have HG9:Hid (w.grownBy _ (some g)):=zW9 HG.out G9 (zB1 _);obtain ⟨w9,hw9⟩:∃ w9,w9=(((wr.setCell ⟨w.heap.size,0,none⟩ (.bool (ngB d.num))).setCell ⟨w.heap.size,1,none⟩ (.slice Au (digs 4294967296 d.num.natAbs).length cu)).setCell ⟨w.heap.size,2,none⟩ (.slice At (digs 4294967296 d.den).length ct)):=⟨_,rfl⟩;rw [<- hw9] at B9 TS9 RP9 s9 d9 HG9;have bd:=(Below.refl w9.heap.size w9).drew;have B10:=B9.bQ bd;have HEND:Hid (yJ7 T0 g n C j S w (.returned (.tuple #[u6,.agg #[.bool (ngB d.num),.slice Au (digs 4294967296 d.num.natAbs).length cu,.slice At (digs 4294967296 d.den).length ct]])) w9.drew):=⟨_,_,T,us',ps,d,rfl,HD.out,TS9.bQ bd,RP9.bQ bd,⟨_,_,rfl,s9.bQ bd,d9.bQ bd⟩,HLD.out,zL HG9.out bd⟩;obtain ⟨C0,C1,C2,_,_,_⟩:=three B10;clear TS9 RP9 s9 d9 HG9 B9 bd B10;rw [hw9] at C0 C1 C2;have HW:=hQ9 hw9;clear hw9;go_upto_region 18 with (fail);go_region
      all_goals
        go_wp2;exact bodyPost_ret (v:=.tuple #[u6,.agg #[.bool (ngB d.num),.slice Au (digs 4294967296 d.num.natAbs).length cu,.slice At (digs 4294967296 d.den).length ct]]) (by simp [results,results90,go_sem,C0,C1,C2]) rfl (by have h:=HEND.out;rw [HW.out] at h;exact h)
def SlZ (k:IntKind) (B:Nat) (w:World) (v:Value) (zs:List Int):Prop:=∃ A c,v=.slice A zs.length c/\zs.length<=c/\c<=maxLen /\ ∀ (i:Nat) (z:Int),zs[i]?=some z -> ∃ g o u,A=some ⟨g,o,none⟩/\w.cell? ⟨g,o+i*2,none⟩=some (.bool (ngB z))/\w.cell? ⟨g,o+i*2+1,none⟩=some u/\IsS w k u (digs B z.natAbs)
theorem SlZ.bQ {k:IntKind} {B:Nat} {w w':World} {v:Value} {zs:List Int} (h:SlZ k B w v zs) (hb:Below w.heap.size w w'):SlZ k B w' v zs:=by
 obtain ⟨A,c,e,h1,h2,h3⟩:=h;refine ⟨A,c,e,h1,h2,fun i z hz => ?_⟩;obtain ⟨g,o,u,e2,c0,c1,s⟩:=h3 i z hz;exact ⟨g,o,u,e2,(hb.cell (bQ0 w _ c0)).trans c0,(hb.cell (bQ0 w _ c1)).trans c1,s.bQ hb⟩
theorem SlZ.shape {k:IntKind} {B:Nat} {w:World} {v:Value} {zs:List Int} (h:SlZ k B w v zs):∃ A c,v=.slice A zs.length c/\zs.length<=c/\c<=maxLen:=by
 obtain ⟨A,c,e,h1,h2,_⟩:=h;exact ⟨A,c,e,h1,h2⟩
theorem SlZ.at_ {k:IntKind} {B:Nat} {w:World} {A:Option Addr} {n c:Nat} {zs:List Int} {i:Nat} {z:Int} (h:SlZ k B w (.slice A n c) zs) (hz:zs[i]?=some z):∃ g o u,A=some ⟨g,o,none⟩/\i<n/\w.cell? ⟨g,o+i*2,none⟩=some (.bool (ngB z))/\w.cell? ⟨g,o+i*2+1,none⟩=some u/\IsS w k u (digs B z.natAbs):=by
 obtain ⟨A',c',e,h1,h2,h3⟩:=h;injection e with e1 e2 e3;subst e1;subst e2;subst e3;obtain ⟨g,o,u,e4,c0,c1,s⟩:=h3 i z hz;exact ⟨g,o,u,e4,(zA4.1 hz).1,c0,c1,s⟩
theorem SlZ.at2 {k:IntKind} {B:Nat} {w:World} {g o n c:Nat} {zs:List Int} {i:Nat} {z:Int} (h:SlZ k B w (.slice (some ⟨g,o,none⟩) n c) zs) (hz:zs[i]?=some z):∃ u,i<n/\w.cell? ⟨g,o+i*2,none⟩=some (.bool (ngB z))/\w.cell? ⟨g,o+i*2+1,none⟩=some u/\IsS w k u (digs B z.natAbs):=by
 obtain ⟨g',o',u,hA,h1,h2,h3,h4⟩:=h.at_ hz;injection hA with hA;injection hA with e1 e2;subst e1;subst e2;exact ⟨u,h1,h2,h3,h4⟩
theorem SlZ.place {k:IntKind} {B:Nat} {w:World} {A:Option Addr} {n c:Nat} {zs:List Int} (h:SlZ k B w (.slice A n c) zs) (hne:zs≠[]):∃ g o,A=some ⟨g,o,none⟩/\g<w.heap.size:=by
  cases zs with
  | nil=>exact absurd rfl hne
  | cons z zs =>
    obtain ⟨g,o,u,rfl,_,hc,_⟩:=h.at_ (i:=0) (z:=z) rfl;exact ⟨g,o,rfl,bQ0 w _ hc⟩
theorem qH8 (k:IntKind) (B:Nat) (w:World) {A:Option Addr} {c:Nat} (hc:c<=maxLen):SlZ k B w (.slice A 0 c) []:=⟨A,c,rfl,Nat.zero_le _,hc,fun i z hz=>by simp at hz⟩
theorem SlZ.take {k:IntKind} {B:Nat} {w:World} {A:Option Addr} {n c:Nat} {zs:List Int} (h:SlZ k B w (.slice A n c) zs) {m:Nat} (hm:m<=zs.length):SlZ k B w (.slice A m c) (zs.take m):=by
 obtain ⟨A',c',e,h1,h2,h3⟩:=h;injection e with e1 e2 e3;subst e1;subst e2;subst e3;have hl:(zs.take m).length=m:=by rw [bQ7];omega
 refine ⟨A,c,by rw [hl],by omega,h2,fun i z hz=>h3 i z ?_⟩;rw [List.getElem?_take] at hz
 split at hz
 ·exact hz
 ·cases hz
theorem SlZ.drop {k:IntKind} {B:Nat} {w:World} {g o n c:Nat} {zs:List Int} (h:SlZ k B w (.slice (some ⟨g,o,none⟩) n c) zs) {m:Nat} (hm:m<=zs.length):SlZ k B w (.slice (some ⟨g,o+m*2,none⟩) (n-m) (c-m)) (zs.drop m):=by
 obtain ⟨A',c',e,h1,h2,h3⟩:=h;injection e with e1 e2 e3;subst e1;subst e2;subst e3;refine ⟨_,_,by rw [bX2],by rw [bX2];omega,by omega,fun i z hz => ?_⟩;rw [bW9] at hz;obtain ⟨g',o',u,e4,c0,c1,s⟩:=h3 (m+i) z hz;injection e4 with e4;injection e4 with e5 e6;subst e5;subst e6;refine ⟨g,o+m*2,u,rfl,?_,?_,s⟩
 ·rw [<- c0];congr 2;omega
 ·rw [<- c1];congr 2;omega
theorem qP0 {P:Program} {t e:TypeId} (hu:P.underlying t=some (.slice e)) (hs:(P.info? e).map (·.size)=some 2) {g o n c k:Nat} (hk:k<n) (w:World):(Instr.indexAt t (.slice (some ⟨g,o,none⟩) n c) (.int .i64 (k:Int))).run P w=.ok (.pointer (some ⟨g,o+k*2,none⟩)) w:=by
  cases hq:P.info? e with
  | none=>simp [hq] at hs
  | some inf =>
    have hsz:inf.size=2:=by simpa [hq] using hs
    simp [Instr.indexAt,asIntOf,go_sem,run_underlying hu,sizeOf,typeInfo,hq,hsz,hk]
def zL6 (w:World) (g n:Nat) (zs:List Int):Prop:=∃ ps:List (Int × Value),ps.length=n/\zs.length<=n/\Blk w g 60 (zF ps).toArray/\(∀ p∈ps,∃ A m c,p.2=.slice A m c) /\ ∀ (i:Nat) (z:Int),zs[i]?=some z -> ∃ p,ps[i]?=some p/\p.1=z/\IsS w .u64 p.2 (digs 4294967296 z.natAbs)
theorem zL6.bQ {w w':World} {g n:Nat} {zs:List Int} (h:zL6 w g n zs) (hb:Below w.heap.size w w'):zL6 w' g n zs:=by
 obtain ⟨ps,h1,h2,h3,h4,h5⟩:=h;refine ⟨ps,h1,h2,h3.bQ hb,h4,fun i q hq => ?_⟩;obtain ⟨p,k1,k2,k3⟩:=h5 i q hq;exact ⟨p,k1,k2,k3.bQ hb⟩
theorem qP1 (ps:List (Int × Value)):(zF ps).length=ps.length*2:=by
 induction ps with
 | nil=>rfl
 | cons p ps ih=>show (Value.bool (ngB p.1) :: p.2 :: zF ps).length=_;rw [bX3,bX3,ih,bX3];omega
theorem zX (p:Int × Value) (ps:List (Int × Value)):zF (p :: ps)=.bool (ngB p.1) :: p.2 :: zF ps:=rfl
theorem yJ8:∀ (ps:List (Int × Value)) (i:Nat) (p:Int × Value),((zF ps).set (i*2) (.bool (ngB p.1))).set (i*2+1) p.2=zF (ps.set i p)
  | [],i,p=>by simp [zF]
  | q :: ps, 0, p => by
    rw [zA2,zX,zX];simp
  | q :: ps, i + 1, p => by
    have ih:=yJ8 ps i p;rw [zA1,zX,zX,<- ih,show (i+1)*2=i*2+1+1 from by omega];simp
theorem jH7 {k:IntKind} {ps:List (Int × Value)} (h4:∀ p∈ps,∃ A m c,p.2=.slice A m c):∀ c∈(zF ps).toArray,∀ n,c ≠ .int k n:=by
 intro c hc n;obtain ⟨p,hp,hc⟩:=List.mem_flatMap.1 (List.mem_toArray.1 hc);obtain ⟨A,m,d,e1⟩:=h4 p hp;simp only [e1,List.mem_cons,List.not_mem_nil,or_false] at hc;rcases hc with rfl|rfl<;>simp
theorem zL6.keep {w w':World} {g n:Nat} {zs:List Int} {k:IntKind} {v:Value} {l:List Nat} (h:zL6 w g n zs) (hg:w.grownBy w' (some g)) (hs:IsS w k v l):IsS w' k v l:=by
 obtain ⟨ps,_,_,h3,h4,_⟩:=h;exact flow.off hs h3 (jH7 h4) hg
theorem zL6.places {w:World} {g n i:Nat} {zs:List Int} (h:zL6 w g n zs) (hi:i<n):∃ x y,w.cell? ⟨g,0+i*2,none⟩=some x/\w.cell? ⟨g,0+i*2+1,none⟩=some y/\w.frozen? ⟨g,0+i*2,none⟩=false/\w.frozen? ⟨g,0+i*2+1,none⟩=false:=by
 obtain ⟨ps,h1,h2,h3,h4,h5⟩:=h;obtain ⟨f0,f1⟩:=qM ps i _ (zA3 (by omega));rw [bY5];exact ⟨_,_,by rw [h3.cell,bW8];exact f0,by rw [h3.cell,bW8];exact f1,h3.frozen _,h3.frozen _⟩
theorem zL6.set2 {w:World} {g n:Nat} {zs:List Int} {z:Int} {u:Value} (h:zL6 w g n zs) (hi:zs.length<n) (hu:IsS w .u64 u (digs 4294967296 z.natAbs)) :
  w.grownBy ((w.setCell ⟨g,0+zs.length*2,none⟩ (.bool (ngB z))).setCell ⟨g,0+zs.length*2+1,none⟩ u) (some g)/\zL6 ((w.setCell ⟨g,0+zs.length*2,none⟩ (.bool (ngB z))).setCell ⟨g,0+zs.length*2+1,none⟩ u) g n (zs ++ [z]):=by
 have hg:w.grownBy ((w.setCell ⟨g,0+zs.length*2,none⟩ (.bool (ngB z))).setCell ⟨g,0+zs.length*2+1,none⟩ u) (some g):=(zE9 w g (0+zs.length*2) _).andThen (zE9 _ g (0+zs.length*2+1) _) (fun j e => .inr e);have keep:=fun {k v l} => h.keep (k:=k) (v:=v) (l:=l) hg;obtain ⟨ps,h1,h2,h3,h4,h5⟩:=h;refine ⟨hg,ps.set zs.length (z,u),by rw [bQ5];exact h1,by simp;omega,?_,fun p hp => ?_,fun j x hx => ?_⟩
 ·have h6:=zT (zT h3 (i:=0+zs.length*2) (.bool (ngB z))) (i:=0+zs.length*2+1) u
  have e:(((zF ps).toArray).setIfInBounds (0+zs.length*2) (.bool (ngB z))).setIfInBounds (0+zs.length*2+1) u=(zF (ps.set zs.length (z,u))).toArray:=by
   rw [<- yJ8 ps zs.length (z,u),bY5];simp
  rw [e] at h6;exact h6
 ·rcases bW3 hp with hp | rfl
  ·exact h4 p hp
  ·obtain ⟨A,c,e1,_⟩:=hu;exact ⟨_,_,_,e1⟩
 ·by_cases hj:j=zs.length
  ·subst hj;rw [List.getElem?_concat_length] at hx;injection hx with hx;subst hx;exact ⟨_,bQ3 (by omega),rfl,keep hu⟩
  ·have hl:=(zA4.1 hx).1;rw [zA8,List.length_singleton] at hl;rw [zB0 (by omega)] at hx;obtain ⟨p,k1,k2,k3⟩:=h5 j x hx;exact ⟨p,by rw [bW1 (fun e=>hj e.symm)];exact k1,k2,keep k3⟩
theorem zL6.sl {w:World} {g n:Nat} {zs:List Int} (h:zL6 w g n zs) (hn:zs.length=n) (hm:n<=1000000000):SlZ .u64 4294967296 w (.slice (some ⟨g,0,none⟩) n n) zs:=by
 obtain ⟨ps,h1,h2,h3,h4,h5⟩:=h;refine ⟨some ⟨g,0,none⟩,n,by rw [hn],by omega,by unfold maxLen;omega,fun i z hz => ?_⟩;obtain ⟨p,k1,rfl,k3⟩:=h5 i z hz;obtain ⟨f0,f1⟩:=qM ps i p k1;refine ⟨g,0,p.2,rfl,?_,?_,k3⟩
 ·rw [bY5,h3.cell,bW8];exact f0
 ·rw [bY5,h3.cell,bW8];exact f1
theorem made2 (n:Nat):(madeCells #[.bool false,.slice none 0 0] (n*2)).toList=zF (zB n ((0,.slice none 0 0):Int × Value)):=by
  have key:∀ n j:Nat,(zF (zB n ((0,.slice none 0 0):Int × Value)))[j]?=if j<n*2 then some ((#[.bool false,.slice none 0 0]:Array Value)[j % 2]?.getD undef) else none:=by
    intro n
    induction n with
    | zero=>intro j;simp [zF]
    | succ n ih =>
      intro j;rw [List.replicate_succ,zX]
      match j with
      | 0=>simp [ngB]
      | 1=>simp;omega
      | j + 2 =>
        rw [List.getElem?_cons_succ,List.getElem?_cons_succ,ih j];have h1:(j+2) % 2=j % 2:=by omega
        rw [h1];by_cases h:j<n*2
        · rw [if_pos h,if_pos (by omega)]
        · rw [if_neg h,if_neg (by omega)]
  apply bX0;intro j;rw [key n j];have h3:j % 2<2:=Nat.mod_lt _ (by omega);by_cases h:j<n*2
  · rw [if_pos h];rcases (by omega:j % 2=0\/j % 2=1) with e | e<;>simp [madeCells,h,e]
  · rw [if_neg h];simp [madeCells,h]
theorem jH8 {w:World} {g n:Nat} (h:Blk w g 60 (zF (zB n ((0,.slice none 0 0):Int × Value))).toArray):zL6 w g n [] :=
 ⟨_,List.length_replicate,Nat.zero_le _,h,fun p hp=>by obtain rfl:=(List.mem_replicate.1 hp).2;exact ⟨_,_,_,rfl⟩,fun i q hq=>by simp at hq⟩
section
variable {P:Program}
theorem jH9 {w:World} {t:TypeId} (ht:P.underlying t=some (.slice 60)) (hI:∃ i,P.info? 60=some i/\i.zero=some (.agg #[.bool false,.slice none 0 0])/\i.size=2/\i.bytes=32) (n:Nat) (hn:n<=1000000000) :
  ∃ w',(Instr.makeSlice t (.int .i64 (n:Int)) (.int .i64 (n:Int))).run P w=.ok (.slice (some ⟨w.heap.size,0,none⟩) n n) w'/\zL6 w' w.heap.size n []/\Below w.heap.size w w':=by
 obtain ⟨i,hi,hz,hs,hb⟩:=hI;obtain ⟨w',h1,h2,h3⟩:=run_make_full (P:=P) w w.heap.size t 60 i _ 2 ht hi hz hs .i64 .i64 n (by rw [hb];omega) (by unfold maxLen;omega) (zB1 _);refine ⟨w',h1,jH8 ?_,(Below.refl _ w).grown h3 (zB1 _) (fun g hg=>by cases hg)⟩;obtain ⟨hl,h2⟩:=h2;rcases h2 with ⟨h4,_⟩|⟨g,cap,cur,h4,_,h5,_,_,h6,h7⟩
 ·cases h4
 ·injection h4 with h4 _ h8;injection h4 with h4;injection h4 with h4 _ _;subst h4;subst h8;rw [zA7 (by simp [h6])] at h7
  have e:cur=(zF (zB n ((0,.slice none 0 0):Int × Value))).toArray:=by
   rw [<- made2];rw [show (Value.agg #[.bool false,.slice none 0 0]).cells = #[.bool false,.slice none 0 0] from rfl] at h7;rw [<- h7]
  rw [<- e];exact h5
end
def SlW (k:IntKind) (B:Nat) (w:World) (v:Value) (t:List (List Int)):Prop:=∃ us:List Value,us.length=t.length/\(∃ A c,v=.slice A us.length c/\us.length<=c/\c<=maxLen /\ ∀ (i:Nat) (u:Value),us[i]?=some u -> ∃ ad,A=some ad/\w.cell? (ad.add i)=some u) /\ ∀ (i:Nat) (u:Value) (r:List Int),us[i]?=some u->t[i]?=some r->SlZ k B w u r
theorem SlW.bQ {k:IntKind} {B:Nat} {w w':World} {v:Value} {t:List (List Int)} (h:SlW k B w v t) (hb:Below w.heap.size w w'):SlW k B w' v t:=by
 obtain ⟨us,hl,⟨A,c,e,h1,h2,h3⟩,h4⟩:=h;refine ⟨us,hl,⟨A,c,e,h1,h2,fun i u hu => ?_⟩,fun i u r hu hr=>(h4 i u r hu hr).bQ hb⟩;obtain ⟨ad,ha,hc⟩:=h3 i u hu;exact ⟨ad,ha,(hb.cell (bQ0 w _ hc)).trans hc⟩
theorem SlW.shape {k:IntKind} {B:Nat} {w:World} {v:Value} {t:List (List Int)} (h:SlW k B w v t):∃ A c,v=.slice A t.length c/\t.length<=c/\c<=maxLen:=by
 obtain ⟨us,hl,⟨A,c,e,h1,h2,_⟩,_⟩:=h;rw [hl] at e h1;exact ⟨A,c,e,h1,h2⟩
theorem SlW.at_ {k:IntKind} {B:Nat} {w:World} {A:Option Addr} {n c i:Nat} {t:List (List Int)} {r:List Int} (h:SlW k B w (.slice A n c) t) (hr:t[i]?=some r):∃ ad Ar cr,A=some ad/\i<n/\w.cell? (ad.add i)=some (.slice Ar r.length cr)/\SlZ k B w (.slice Ar r.length cr) r:=by
 obtain ⟨us,hl,⟨A',c',e,h1,h2,h3⟩,h4⟩:=h;injection e with e1 e2 e3;subst e1;subst e2;subst e3;have hi:=(zA4.1 hr).1;obtain ⟨u,hu⟩:∃ u,us[i]?=some u:=⟨_,zA3 (by omega)⟩;obtain ⟨ad,ha,hc⟩:=h3 i u hu;have hs:=h4 i u r hu hr;obtain ⟨Ar,cr,rfl,_⟩:=hs.shape;exact ⟨ad,Ar,cr,ha,by omega,hc,hs⟩
theorem SlW.place {k:IntKind} {B:Nat} {w:World} {A:Option Addr} {n c:Nat} {t:List (List Int)} (h:SlW k B w (.slice A n c) t) (hne:t≠[]):∃ ad,A=some ad:=by
  cases t with
  | nil=>exact absurd rfl hne
  | cons r t =>
    obtain ⟨ad,_,_,e,_⟩:=h.at_ (i:=0) (r:=r) rfl;exact ⟨ad,e⟩
theorem SlW.at2 {k:IntKind} {B:Nat} {w:World} {ad:Addr} {n c i:Nat} {t:List (List Int)} {r:List Int} (h:SlW k B w (.slice (some ad) n c) t) (hr:t[i]?=some r):∃ Ar cr,i<n/\w.cell? (ad.add i)=some (.slice Ar r.length cr)/\SlZ k B w (.slice Ar r.length cr) r:=by
 obtain ⟨ad',Ar,cr,hA,h1,h2,h3⟩:=h.at_ hr;injection hA with hA;subst hA;exact ⟨Ar,cr,h1,h2,h3⟩
theorem zG1.keepZ {w w':World} {g:Nat} {TS:TypeId} {us:List Value} {k:IntKind} {B:Nat} {v:Value} {r:List Int} (h:zG1 w g TS us) (hg:w.grownBy w' (some g)) (hs:SlZ k B w v r):SlZ k B w' v r:=by
 obtain ⟨A,c,e,h2,h3,h4⟩:=hs;refine ⟨A,c,e,h2,h3,fun i z hz => ?_⟩;obtain ⟨g',o,u,e2,c0,c1,s⟩:=h4 i z hz
 have hne:some g'≠some g:=by
  intro e3;injection e3 with e3;subst e3;rw [h.1.cell,bW8] at c0;obtain ⟨A',m,d,e4⟩:=h.2 _ (zA5 c0);cases e4
 exact ⟨g',o,u,e2,hg.cell c0 hne,hg.cell c1 hne,h.keep hg s⟩
def zE2 (k:IntKind) (B:Nat) (w:World) (g:Nat) (TS:TypeId) (us:List Value) (t:List (List Int)):Prop:=zG1 w g TS us/\us.length=t.length /\ ∀ (i:Nat) (u:Value) (r:List Int),us[i]?=some u->t[i]?=some r->SlZ k B w u r
theorem zE2.bQ {k:IntKind} {B:Nat} {w w':World} {g:Nat} {TS:TypeId} {us:List Value} {t:List (List Int)} (h:zE2 k B w g TS us t) (hb:Below w.heap.size w w'):zE2 k B w' g TS us t:=⟨h.1.bQ hb,h.2.1,fun i u r hu hr=>(h.2.2 i u r hu hr).bQ hb⟩
theorem zE2.drew {k:IntKind} {B:Nat} {w:World} {g:Nat} {TS:TypeId} {us:List Value} {t:List (List Int)} (h:zE2 k B w g TS us t):zE2 k B w.drew g TS us t:=h.bQ (Below.refl _ w).drew
theorem zE2.lt {k:IntKind} {B:Nat} {w:World} {g:Nat} {TS:TypeId} {us:List Value} {t:List (List Int)} (h:zE2 k B w g TS us t):g<w.heap.size:=h.1.lt
theorem zE2.put {k:IntKind} {B:Nat} {w w':World} {g i:Nat} {TS:TypeId} {us:List Value} {t:List (List Int)} {u:Value} {r:List Int} (h:zE2 k B w g TS us t) (hg:w.grownBy w' (some g)) (hB:w'.heap[g]?=some (.cells (us.toArray.setIfInBounds i u) TS (0,0))) (hu:SlZ k B w u r):zE2 k B w' g TS (us.set i u) (t.set i r):=by
 obtain ⟨A,c,eu,_⟩:=hu.shape;refine ⟨h.1.put hB ⟨_,_,_,eu⟩,by rw [bQ5,bQ5];exact h.2.1,fun j x y hx hy => ?_⟩;by_cases hj:i=j
 ·subst hj;have hi:i<us.length:=by have:=(zA4.1 hx).1;rwa [bQ5] at this
  rw [bQ3 hi] at hx;rw [bQ3 (by rw [<- h.2.1];exact hi)] at hy;injection hx with hx;injection hy with hy;subst hx;subst hy;exact h.1.keepZ hg hu
 ·rw [bW1 hj] at hx hy;exact h.1.keepZ hg (h.2.2 j x y hx hy)
theorem zE2.stored {k:IntKind} {B:Nat} {w:World} {g:Nat} {TS:TypeId} {us:List Value} {t:List (List Int)} (h:zE2 k B w g TS us t) (i:Nat) {u:Value} {r:List Int} (hu:SlZ k B w u r):zE2 k B (w.setCell ⟨g,i,none⟩ u) g TS (us.set i u) (t.set i r):=h.put (zE9 w g i u) (heap_setCell h.1.1) hu
theorem zE2.at_ {k:IntKind} {B:Nat} {w:World} {g:Nat} {TS:TypeId} {us:List Value} {T:List (List Int)} (h:zE2 k B w g TS us T) {i:Nat} {r:List Int} (hr:T[i]?=some r):∃ Ar cr,us[i]?=some (.slice Ar r.length cr)/\w.cell? ⟨g,i,none⟩=some (.slice Ar r.length cr)/\SlZ k B w (.slice Ar r.length cr) r:=by
 have hi:=(zA4.1 hr).1;obtain ⟨u,hu⟩:∃ u,us[i]?=some u:=⟨_,zA3 (by rw [h.2.1];exact hi)⟩;have hs:=h.2.2 i u r hu hr;obtain ⟨Ar,cr,rfl,_⟩:=hs.shape;have hc:=h.1.cell hu;rw [zR9] at hc;exact ⟨Ar,cr,hu,hc,hs⟩
theorem zE2.sub {k:IntKind} {B:Nat} {w:World} {g:Nat} {TS:TypeId} {us:List Value} {T:List (List Int)} (h:zE2 k B w g TS us T) {o m c:Nat} (hm:o+m<=T.length) (hc:m<=c) (hx:c<=maxLen):SlW k B w (.slice (some ⟨g,o,none⟩) m c) ((T.drop o).take m):=by
 have hl:((us.drop o).take m).length=m:=by rw [bQ7,bX2,h.2.1];omega
 have hl2:((T.drop o).take m).length=m:=by rw [bQ7,bX2];omega
 refine ⟨(us.drop o).take m,by rw [hl,hl2],⟨some ⟨g,o,none⟩,c,by rw [hl],by omega,hx,fun i u hu=>⟨_,rfl,?_⟩⟩,fun i u r hu hr => ?_⟩
 ·have hi:=(zA4.1 hu).1;rw [List.getElem?_take_of_lt (by omega),bW9] at hu;have hc:=h.1.cell hu;rw [zR9] at hc;rw [qW1];exact hc
 ·have hi:=(zA4.1 hu).1;rw [List.getElem?_take_of_lt (by omega),bW9] at hu hr;exact h.2.2 _ u r hu hr
def zV1 (T:List (List Int)) (i j:Nat):Int:=(T.getD i []).getD j 0
theorem entI_of {T:List (List Int)} {i j:Nat} {r:List Int} {z:Int} (hr:T[i]?=some r) (hz:r[j]?=some z):zV1 T i j=z:=by
 unfold zV1;rw [zA6,zA6,hr];show (r[j]?).getD 0=z
 rw [hz];rfl
def zP7 (T:List (List Int)):Nat:=(T.getD 0 []).length
def qC0 (T:List (List Int)):Prop:=T.length<=100 /\ ∀ r∈T,r.length=zP7 T/\r.length<=100
theorem yJ9 {P:Program} {t e:TypeId} (hu:P.underlying t=some (.slice e)) (hs:(P.info? e).map (·.size)=some 2) {g o n c:Nat} (hk:0<n) (w:World):(Instr.indexAt t (.slice (some ⟨g,o,none⟩) n c) (.int .i64 0)).run P w=.ok (.pointer (some ⟨g,o,none⟩)) w:=by
 have h:=qP0 hu hs (g:=g) (o:=o) (c:=c) hk w;rw [show o+0*2=o by omega] at h;exact h
theorem yK (z:Int):(zJ3 z 0=0) ↔ z=0:=by
 unfold zJ3
 split
 ·constructor<;>intro h<;>omega
 ·split<;>constructor<;>intro h<;>omega
def jI (L:List (List Int)) (w:World) (e:Ending) (w':World):Prop:=∃ k:Nat,e=.returned (.int .i64 (k:Int))/\k<=L.length/\(∀ i,i<k->zV1 L i 0=0)/\(k<L.length->zV1 L k 0≠0)/\Below w.heap.size w w'
theorem jI0 (a0:Value) (L:List (List Int)) (w:World) (h0:SlW .u64 4294967296 w a0 L) (hl:∀ r∈L,0<r.length):Calls prog 117 #[a0] w (jI L w):=by
 have st0:=h0;obtain ⟨A0,c0,rfl,hc0,hm0⟩:=h0.shape;unfold maxLen at hm0;have HL:=hQ9 hl;clear hl
 go_enter func117,ntmps117
 go_wp2
 go_loopw [6] (fun v6 wr => ∃ k:Nat,k<=L.length/\Hid (∀ i,i<k->zV1 L i 0=0)/\Below w.heap.size w wr/\v6=.int .i64 (k:Int)) (fun v6 _=>L.length-(intOf v6).toNat)
 case atStart=>exact ⟨0,by omega,(by show ∀ i,_;intro i hi;omega),Below.refl _ _,rfl⟩
 case round =>
  obtain ⟨k,hk,HZ,bb,rfl⟩:=hrel;by_cases hlt:k<L.length
  ·obtain ⟨r,hr⟩:∃ r,L[k]?=some r:=⟨_,zA3 hlt⟩;have hal:=HL.out r (zA5 hr);obtain ⟨q,hq⟩:∃ q,r[0]?=some q:=⟨_,zA3 hal⟩;have he:Hid (zV1 L k 0=q):=entI_of hr hq;obtain ⟨ad,rfl⟩:=st0.place (List.length_pos_iff.1 (by omega));obtain ⟨Ar,cr,hik,ecr,sr⟩:=(st0.bQ bb).at2 hr;obtain ⟨gr,or,u,rfl,hia,k0,k1,su⟩:=sr.at_ hq;rw [show or+0*2=or by omega] at k0 k1;obtain ⟨Au,cu,rfl,_⟩:=id su;have hix:=fun w=>yJ9 (P:=prog) underlying48 (by kernel_rfl) (g:=gr) (o:=or) (c:=cr) hia w;have kq:IsZ wr (.agg #[.bool (ngB q),.slice Au (digs 4294967296 q.natAbs).length cu]) q:=⟨_,rfl,su⟩;obtain ⟨t,ht⟩:∃ t,t=zJ3 q 0:=⟨_,rfl⟩;have hz:t=0 ↔ q=0:=by rw [ht];exact yK q
   have HT:=hQ9 ht;clear hr hq ht sr;go_wp2_with fail
   refine (qF0 _ q t _ kq HT.out).mono ?_;rintro e w4 ⟨rfl,b4⟩;have bb4:=bb.trans (b4.mono bb.size);by_cases hq0:q=0
   ·obtain rfl:t=0:=hz.2 hq0
    have HZ2:Hid (∀ i,i<k+1->zV1 L i 0=0):=by
     show ∀ i,_
     intro i hi;by_cases e:i=k
     ·subst e;rw [he.out];exact hq0
     ·exact HZ.out i (by omega)
    clear hz hq0 kq k0 k1;go_wp2;go_roundw;case rel=>exact ⟨k+1,by omega,HZ2,bb4,by go_num⟩
    case measure=>simp [intOf];omega
   ·have hz1:(t != 0)=true:=by rw [bne_iff_ne];exact fun e=>hq0 (hz.1 e)
    have hz2:¬ t=0:=fun e=>hq0 (hz.1 e);have HN:Hid (zV1 L k 0≠0):=by show _≠_;rw [he.out];exact hq0
    clear hz hq0 kq k0 k1;go_wp2;go_ret;exact ⟨k,rfl,by omega,HZ.out,fun _=>HN.out,bb4⟩
  ·obtain rfl:k=L.length:=by omega
   go_wp2;go_ret;exact ⟨_,rfl,zB1 _,HZ.out,fun h=>by omega,bb⟩
theorem jI1 {T:List (List Int)} {k:Nat} {r:List Int} (h:∀ x∈T.take k,x.length=zP7 T/\x.length<=100) (hr:T[k]?=some r) (h1:r.length=zP7 T) (h2:r.length<=100):∀ x∈T.take (k+1),x.length=zP7 T/\x.length<=100:=by
 intro x hx;rw [bQ9,hr] at hx;rcases List.mem_append.1 hx with hx | hx
 ·exact h x hx
 ·obtain rfl:x=r:=by simpa using hx
  exact ⟨h1,h2⟩
theorem yK0 (a0:Value) (T:List (List Int)) (w:World) (h0:SlW .u64 4294967296 w a0 T):Calls prog 71 #[a0] w (fun e w'=>(qC0 T/\zD3 (.bool true) w e w')\/(¬ qC0 T/\zD3 (.bool false) w e w')):=by
 have st0:=h0;obtain ⟨A0,c0,rfl,hc0,hm0⟩:=h0.shape;unfold maxLen at hm0
 go_enter func71,ntmps71
 by_cases h1:100<T.length
 ·have h1':(100:Int)<((T.length:Nat):Int):=by omega
  go_wp2;go_ret;exact .inr ⟨fun h=>by have:=h.1;omega,rfl,Below.refl _ _⟩
 ·have h1':¬ (100:Int)<((T.length:Nat):Int):=by omega
  go_wp2
  go_loopw [9] (fun v9 wr => ∃ k:Nat,k<=T.length/\Hid (∀ x∈T.take k,x.length=zP7 T/\x.length<=100)/\Below w.heap.size w wr/\v9=.int .i64 (k:Int)) (fun v9 _=>T.length-(intOf v9).toNat)
  case atStart=>exact ⟨0,by omega,(by show ∀ x∈_,_;intro x hx;simp at hx),Below.refl _ _,rfl⟩
  case round =>
   obtain ⟨k,hk,HE,bb,rfl⟩:=hrel;by_cases hlt:k<T.length
   ·obtain ⟨r,hr⟩:∃ r,T[k]?=some r:=⟨_,zA3 hlt⟩;obtain ⟨r0,hr0⟩:∃ r0,T[0]?=some r0:=⟨_,zA3 (by omega)⟩;have HW:Hid (zP7 T=r0.length):=by show _=_;unfold zP7;rw [zA6,hr0];rfl
    have HR:=hQ9 hr;obtain ⟨ad,rfl⟩:=st0.place (List.length_pos_iff.1 (by omega));obtain ⟨Ar,cr,hik,ecr,-⟩:=(st0.bQ bb).at2 hr;obtain ⟨A1,c1,hi0,ec0,-⟩:=(st0.bQ bb).at2 hr0;have ec0':wr.cell? ad=some (.slice A1 r0.length c1):=by rw [<- ec0];congr 1
    clear hr hr0 ec0;by_cases e1:r.length=r0.length
    ·by_cases e2:100<r.length
     ·have g1:(((r.length:Nat):Int) != ((r0.length:Nat):Int))=false:=by rw [bne_eq_false_iff_eq];omega
      have g2:(100:Int)<((r.length:Nat):Int):=by omega
      have HN:Hid (¬ qC0 T):=fun h=>by have:=(h.2 r (zA5 HR.out)).2;omega
      go_upto_region 6 with (fail)
      go_quiet (fail)
      go_wp2;go_ret;exact .inr ⟨HN.out,rfl,zN9 bb _⟩
     ·have g1:(((r.length:Nat):Int) != ((r0.length:Nat):Int))=false:=by rw [bne_eq_false_iff_eq];omega
      have g2:¬ (100:Int)<((r.length:Nat):Int):=by omega
      have HE2:Hid (∀ x∈T.take (k+1),x.length=zP7 T/\x.length<=100):=jI1 HE.out HR.out (by rw [HW.out];exact e1) (by omega);go_upto_region 6 with (fail)
      go_quiet (fail)
      go_wp2;go_roundw;case rel=>exact ⟨k+1,by omega,HE2,zN9 bb _,by go_num⟩
      case measure=>simp [intOf];omega
    ·have g1:(((r.length:Nat):Int) != ((r0.length:Nat):Int))=true:=by rw [bne_iff_ne];omega
     have HN:Hid (¬ qC0 T):=fun h=>by have:=(h.2 r (zA5 HR.out)).1;have:=HW.out;omega
     go_upto_region 6 with (fail)
     go_quiet (fail)
     go_wp2;go_ret;exact .inr ⟨HN.out,rfl,zN9 bb _⟩
   ·obtain rfl:k=T.length:=by omega
    go_wp2;go_ret;exact .inl ⟨⟨by omega,by have:=HE.out;rwa [List.take_length] at this⟩,rfl,bb⟩
def zX0 (T:List (List Int)):Prop:=T.length<=100 /\ ∀ r∈T,r.length=T.length
theorem qP2 (T:List (List Int)):zX0 T ↔ qC0 T/\(T.length=0\/zP7 T=T.length):=by
 constructor
 ·intro h;by_cases h0:T.length=0
  ·obtain rfl:=List.length_eq_zero_iff.1 h0;exact ⟨⟨by simp,fun r hr=>by cases hr⟩,.inl rfl⟩
  ·have hw:zP7 T=T.length:=by
    unfold zP7;have e:T[0]?=some (T[0]'(by omega)):=zA3 (by omega);rw [zA6,e];exact h.2 _ (zA5 e)
   exact ⟨⟨h.1,fun r hr=>⟨by rw [hw];exact h.2 r hr,by rw [h.2 r hr];exact h.1⟩⟩,.inr hw⟩
 ·rintro ⟨h1,h2⟩;refine ⟨h1.1,fun r hr => ?_⟩;rcases h2 with h2 | h2
  ·obtain rfl:=List.length_eq_zero_iff.1 h2;cases hr
  ·rw [(h1.2 r hr).1,h2]
theorem jI2 (a0:Value) (T:List (List Int)) (w:World) (h0:SlW .u64 4294967296 w a0 T):Calls prog 70 #[a0] w (fun e w'=>(zX0 T/\zD3 (.bool true) w e w')\/(¬ zX0 T/\zD3 (.bool false) w e w')):=by
 have st0:=h0;obtain ⟨A0,c0,rfl,hc0,hm0⟩:=h0.shape;unfold maxLen at hm0
 go_enter func70,ntmps70;go_wp2_with fail
 refine (yK0 _ T _ st0).mono ?_;rintro e w2 (⟨hE,rfl,b2⟩|⟨hE,rfl,b2⟩)
 ·have HE:=hQ9 hE;clear hE;by_cases hn:T.length=0
  ·have hn':(((T.length:Nat):Int) == 0)=true:=by rw [beq_iff_eq];omega
   have hn2:((T.length:Nat):Int)=0:=by omega
   have HS:Hid (zX0 T):=(qP2 T).2 ⟨HE.out,.inl hn⟩;go_wp2;go_ret;exact .inl ⟨HS.out,rfl,b2⟩
  ·obtain ⟨r0,hr0⟩:∃ r0,T[0]?=some r0:=⟨_,zA3 (by omega)⟩;have hn':(((T.length:Nat):Int) == 0)=false:=by rw [beq_eq_false_iff_ne];omega
   have hn2:¬ ((T.length:Nat):Int)=0:=by omega
   have HW:Hid (zP7 T=r0.length):=by show _=_;unfold zP7;rw [zA6,hr0];rfl
   obtain ⟨ad,rfl⟩:=st0.place (List.length_pos_iff.1 (by omega));obtain ⟨A1,c1,hi0,ec0,-⟩:=(st0.bQ b2).at2 hr0;have ec0':w2.cell? ad=some (.slice A1 r0.length c1):=by rw [<- ec0];congr 1
   clear hr0 ec0;by_cases hs:r0.length=T.length
   ·have g1:(((r0.length:Nat):Int) == ((T.length:Nat):Int))=true:=by rw [beq_iff_eq];omega
    have HS:Hid (zX0 T):=(qP2 T).2 ⟨HE.out,.inr (by rw [HW.out];exact hs)⟩;go_wp2;go_ret;exact .inl ⟨HS.out,by simp [g1],b2⟩
   ·have g1:(((r0.length:Nat):Int) == ((T.length:Nat):Int))=false:=by rw [beq_eq_false_iff_ne];omega
    have HS:Hid (¬ zX0 T):=fun h=>by
     rcases ((qP2 T).1 h).2 with h | h
     ·exact hn h
     ·exact hs (by rw [<- HW.out];exact h)
    go_wp2;go_ret;exact .inr ⟨HS.out,by simp [g1],b2⟩
 ·have HS:Hid (¬ zX0 T):=fun h=>hE ((qP2 T).1 h).1;clear hE;go_wp2;go_ret;exact .inr ⟨HS.out,rfl,b2⟩
theorem indexI {P:Program} {t e:TypeId} (hu:P.underlying t=some (.slice e)) (hs:(P.info? e).map (·.size)=some 2) {g n c k:Nat} (hk:k<n) (w:World):(Instr.indexAt t (.slice (some ⟨g,0,none⟩) n c) (.int .i64 (k:Int))).run P w=.ok (.pointer (some ⟨g,k*2,none⟩)) w:=by
 have h:=qP0 (P:=P) hu hs (g:=g) (o:=0) (c:=c) hk w;rw [bY5] at h;exact h
theorem no_ints2 {k:IntKind} {b:Bool} {A:Option Addr} {n c:Nat}:∀ x∈(#[.bool b,.slice A n c]:Array Value),∀ m,x ≠ .int k m:=by
 intro x hx m;have:x=.bool b\/x=.slice A n c:=by simpa using hx
 rcases this with rfl|rfl<;>simp
def shI (T:List (List Int)) (n L:Nat):Prop:=T.length=n /\ ∀ r∈T,r.length=L
theorem rowI_ex {T:List (List Int)} {n L i:Nat} (h:shI T n L) (hi:i<n):∃ r,T[i]?=some r/\r.length=L:=by
 have e:T[i]?=some (T[i]'(by rw [h.1];exact hi)):=zA3 _;exact ⟨_,e,h.2 _ (zA5 e)⟩
def zK (T N:List (List Int)) (i:Nat):List (List Int):=N.take i ++ T.drop i
theorem qH9 (T N:List (List Int)):zK T N 0=T:=by simp [zK]
theorem qI {T N:List (List Int)} (h:N.length=T.length):zK T N T.length=N:=by
 unfold zK;rw [List.drop_eq_nil_of_le (zB1 _),List.append_nil,zA7 (by omega)]
theorem qI0 {T N:List (List Int)} {i:Nat} (h:N.length=T.length) (hi:i<=T.length):(zK T N i)[i]?=T[i]?:=by
 unfold zK;have hl:(N.take i).length=i:=by rw [bQ7];omega
 rw [bW0 (by omega),hl,Nat.sub_self,bW9,Nat.add_zero]
theorem qI1 {T N:List (List Int)} {i:Nat} {r:List Int} (h:N.length=T.length) (hr:N[i]?=some r):(zK T N i).set i r=zK T N (i+1):=by
 have hi:=(zA4.1 hr).1;unfold zK;have hl:(N.take i).length=i:=by rw [bQ7];omega
 rw [List.set_append_right _ _ (by omega),hl,Nat.sub_self,List.drop_eq_getElem_cons (show i<T.length by omega),zA2,bQ9,hr];simp
section
variable {n C k:Nat} {a:Nat->Nat->Int} {T:List (List Int)} {d:Int} {q:List Int}
end
def lenI (T:List (List Int)) (S:Nat):Prop:=∀ r∈T,∀ z∈r,zC5 z<=S
theorem SlZ.off {k:IntKind} {B:Nat} {w w':World} {v:Value} {zs:List Int} {g:Nat} {e:TypeId} {cs:Array Value} (h:SlZ k B w v zs) (hB:w.heap[g]?=some (.cells cs e (0,0))) (hno:∀ c∈cs,∀ n,c ≠ .int k n) (hg:w.grownBy w' (some g)) (hne:v.ownBlock≠some g):SlZ k B w' v zs:=by
 obtain ⟨A,c,rfl,h2,h3,h4⟩:=h;refine ⟨A,c,rfl,h2,h3,fun i z hz => ?_⟩;obtain ⟨g',o,u,rfl,c0,c1,s⟩:=h4 i z hz;have hne':some g'≠some g:=fun e=>hne (by simpa [Value.ownBlock] using e);exact ⟨g',o,u,rfl,hg.cell c0 hne',hg.cell c1 hne',flow.off s hB hno hg⟩
theorem zE2.offZ {w w':World} {g gx:Nat} {TS t:TypeId} {us:List Value} {T:List (List Int)} {a b:Value} (h:zE2 .u64 4294967296 w g TS us T) (hB:Blk w gx t #[a,b]) (hno:∀ x∈(#[a,b]:Array Value),∀ n,x ≠ .int .u64 n) (hne:TS≠t) (hg:w.grownBy w' (some gx)) (hoff:∀ u∈us,u.ownBlock≠some gx):zE2 .u64 4294967296 w' g TS us T:=by
 have hgx:g≠gx:=fun e=>by
  have h1:=h.1.1;unfold Blk at h1 hB;rw [e,hB] at h1;injection h1 with h1;injection h1 with _ h1;exact hne h1.symm
 exact ⟨h.1.grown hg (fun e=>hgx (by injection e with e;exact e.symm)),h.2.1,fun i u r hu hr=>(h.2.2 i u r hu hr).off hB hno hg (hoff u (zA5 hu))⟩
theorem SlZ.cut1 {w:World} {g o n c:Nat} {A:Option Addr} {zs:List Int} (h:SlZ .u64 4294967296 w (.slice (some ⟨g,o,none⟩) n c) zs) (hn:1<=zs.length) (hA:A=if c=1 then some ⟨g,o,none⟩ else some ⟨g,o+2,none⟩):SlZ .u64 4294967296 w (.slice A (n-1) (c-1)) (zs.drop 1):=by
 obtain ⟨A0,c0,e,h1,h2⟩:=h.shape;injection e with e1 e2 e3;subst e3;by_cases hc:c=1
 ·rw [if_pos hc] at hA;have hz:zs.drop 1=[]:=List.drop_eq_nil_of_le (by omega);rw [hz,show n-1=0 by omega];exact qH8 _ _ _ (by omega)
 ·rw [if_neg hc] at hA;rw [hA];exact h.drop hn
theorem qP3 {w:World} {g:Nat} {t:TypeId} {a b:Value} (h:Blk w g t #[a,b]) (x y:Value):Blk ((w.setCell ⟨g,0,none⟩ x).setCell ⟨g,1,none⟩ y) g t #[x,y]:=zT (zT h x) y
theorem qW4 (w:World) (g:Nat) (x y:Value):w.grownBy ((w.setCell ⟨g,0,none⟩ x).setCell ⟨g,1,none⟩ y) (some g):=(zE9 w g 0 x).trans (zE9 _ g 1 y)
def zS0 (w:World) (g:Nat):Prop:=∃ cs,w.heap[g]?=some (.cells cs 60 (0,0))
theorem zS0.lt {w:World} {g:Nat} (h:zS0 w g):g<w.heap.size:=by
 obtain ⟨cs,h⟩:=h;exact (Array.getElem?_eq_some_iff.1 h).1
theorem zS0.frozen {w:World} {g:Nat} (h:zS0 w g) (o:Nat):w.frozen? ⟨g,o,none⟩=false:=by
 obtain ⟨cs,h⟩:=h;exact Blk.frozen (t:=60) (cs:=cs) h o
def Kp (w w':World):Prop:=w.heap.size<=w'.heap.size /\ ∀ g,zS0 w g->zS0 w' g
theorem Kp.trans {a b c:World} (h:Kp a b) (k:Kp b c):Kp a c:=⟨zB2 h.1 k.1,fun g hg=>k.2 g (h.2 g hg)⟩
theorem zQ9 {w w':World} (hb:Below w.heap.size w w'):Kp w w':=⟨hb.size,fun g hg=>by
 obtain ⟨cs,h⟩:=hg;exact ⟨cs,Blk.bQ (t:=60) (cs:=cs) h hb⟩⟩
theorem zZ2 (w:World) (g o:Nat) (x:Value):Kp w (w.setCell ⟨g,o,none⟩ x):=⟨(zE9 w g o x).size,fun g' hg=>by
 obtain ⟨cs,h⟩:=hg;by_cases e:g'=g
 ·subst e;exact ⟨_,heap_setCell h⟩
 ·exact ⟨cs,Blk.grown (t:=60) (cs:=cs) h (zE9 w g o x) e⟩⟩
theorem yK1 (w:World) (g:Nat) (x y:Value):Kp w ((w.setCell ⟨g,0,none⟩ x).setCell ⟨g,1,none⟩ y):=(zZ2 w g 0 x).trans (zZ2 _ g 1 y)
def Apt (w:World) (B:Nat) (us:List Value):Prop:=(∀ u∈us,∀ g,u.ownBlock=some g->B<=g/\zS0 w g) /\ ∀ (i j:Nat) (u v:Value),i≠j->us[i]?=some u->us[j]?=some v -> ∀ g,u.ownBlock=some g->v.ownBlock≠some g
theorem Apt.grow {w w':World} {B:Nat} {us:List Value} (h:Apt w B us) (hk:Kp w w'):Apt w' B us:=⟨fun u hu g e=>⟨(h.1 u hu g e).1,hk.2 g (h.1 u hu g e).2⟩,h.2⟩
theorem Apt.set {w:World} {B k:Nat} {us:List Value} {x:Value} (h:Apt w B us) (hx:∀ g,x.ownBlock=some g->B<=g/\zS0 w g) (hn:∀ (j:Nat) (v:Value),j≠k->us[j]?=some v -> ∀ g,x.ownBlock=some g->v.ownBlock≠some g):Apt w B (us.set k x):=by
 refine ⟨fun u hu g e => ?_,fun i j u v hij hu hv g e => ?_⟩
 ·rcases bW3 hu with hu | rfl
  ·exact h.1 u hu g e
  ·exact hx g e
 ·by_cases hi:k=i
  ·subst hi;have hk:=(zA4.1 hu).1;rw [bQ5] at hk;rw [bQ3 hk] at hu;injection hu with hu;subst hu;rw [bW1 hij] at hv;exact hn j v (fun e=>hij e.symm) hv g e
  ·rw [bW1 hi] at hu;by_cases hj:k=j
   ·subst hj;have hk:=(zA4.1 hv).1;rw [bQ5] at hk;rw [bQ3 hk] at hv;injection hv with hv;subst hv;exact fun e2=>hn i u (fun e=>hi e.symm) hu g e2 e
   ·rw [bW1 hj] at hv;exact h.2 i j u v hij hu hv g e
theorem Apt.newR {w:World} {B k:Nat} {us:List Value} {w0:World} {x:Value} (h0:Apt w0 B us) (hk:Kp w0 w) (hB:B<=w0.heap.size) (hx:∀ g,x.ownBlock=some g->w0.heap.size<=g/\zS0 w g):Apt w B (us.set k x):=by
 refine (h0.grow hk).set (fun g e=>⟨zB2 hB (hx g e).1,(hx g e).2⟩) (fun j v hj hv g e e2 => ?_);have h1:=(h0.1 v (zA5 hv) g e2).2.lt;have h2:=(hx g e).1;omega
theorem Apt.new {w:World} {B k gn n c:Nat} {us:List Value} {w0:World} (h0:Apt w0 B us) (hk:Kp w0 w) (hs:w0.heap.size<=gn) (hB:B<=w0.heap.size) (hg:zS0 w gn):Apt w B (us.set k (.slice (some ⟨gn,0,none⟩) n c)) :=
 h0.newR hk hB fun g e=>by
  obtain rfl:gn=g:=by simpa [Value.ownBlock] using e
  exact ⟨hs,hg⟩
theorem Apt.cut {w:World} {B k:Nat} {us:List Value} {x u:Value} (h:Apt w B us) (hu:us[k]?=some u) (hx:∀ g,x.ownBlock=some g->u.ownBlock=some g):Apt w B (us.set k x) :=
 h.set (fun g e=>h.1 u (zA5 hu) g (hx g e)) (fun j v hj hv g e=>h.2 k j u v (fun e=>hj e.symm) hu hv g (hx g e))
def RetWayO (g:Nat) (x y:Int) (us0:List Value) (w:World) (e:Ending) (w':World):Prop:=w.grownBy w' (some g) /\ ∃ us v,e=.returned (.tuple #[v,.bool false])/\IsZ w' v x/\zE2 .u64 4294967296 w' g 48 us [[y]] /\ ∀ B,B<=w.heap.size->Apt w B us0->Apt w' B us
theorem jI3 (g n:Nat) (us:List Value) (x y:Int) (w:World) (h:zE2 .u64 4294967296 w g 48 us [[x,y]]) (hc:Hid (n=1/\x≠0)) :
  Calls prog 73 #[.slice (some ⟨g,0,none⟩) n n] w (RetWayO g x y us w):=by
 have hn100:n<=100:=by have:=hc.out.1;omega
 obtain ⟨T0,hT0⟩:∃ T0,T0=[[x,y]]:=⟨_,rfl⟩;rw [<- hT0] at h;have HT0:=hQ9 hT0;clear hT0;obtain ⟨O,hO⟩:∃ O:Int,O=1:=⟨_,rfl⟩;have CO:∀ w,Calls prog 82 #[.int .i64 1] w (zF6 O w):=fun w=>by rw [hO];exact qL9 1 w (by omega) (by omega)
 clear hO
 go_enter func73,ntmps73;go_wp2_with fail
 refine (CO _).mono ?_;rintro e w2 ⟨v2,rfl,k2,-,b2⟩;obtain ⟨u2,rfl,s2⟩:=k2;obtain ⟨A2,c2,rfl,_⟩:=id s2;have ba:=zC6 (w:=w) (zB1 _) (.cells #[.bool false,.slice none 0 0] 60);have hs1:(w.alloc (.cells #[.bool false,.slice none 0 0] 60)).heap.size=w.heap.size+1:=by first | rfl | exact Array.size_push _
 have BR0:=(Blk.new w 60 #[.bool false,.slice none 0 0]).bQ b2;have ba2:=zC6 (w:=w2) (zB1 _) (.cells #[.bool (ngB O),.slice A2 (digs 4294967296 O.natAbs).length c2] 60);have BP0:=Blk.new w2 60 #[.bool (ngB O),.slice A2 (digs 4294967296 O.natAbs).length c2];have hgP:w.heap.size<w2.heap.size:=by have:=b2.size;omega
 have hglt:g<w.heap.size:=h.lt;have bb2:=ba.trans (b2.mono ba.size);have TS0:=(h.bQ bb2).bQ ba2;have HA0:=hQ9 (fun (B:Nat) (hB:B<=w.heap.size) (h:Apt w B us)=>h.grow ((zQ9 bb2).trans (zQ9 ba2)));have HG0:Hid (w.grownBy _ (some g)):=qW (bb2.trans (ba2.mono bb2.size)) (some g);have s20:=s2.bQ ba2;have BR1:=BR0.bQ ba2
 have HO0:Hid (zM3 us (fun x=>x=w.heap.size\/x=w2.heap.size)):=by
  show zM3 _ _
  intro u hu z hz hG;obtain ⟨i,hi⟩:=List.mem_iff_getElem?.1 hu;have hin:=(zA4.1 hi).1;rw [h.2.1,HT0.out] at hin;have hi1:i<1:=hin;obtain rfl:i=0:=by omega
  have hsl:=h.2.2 0 u [x,y] hi (by rw [HT0.out];rfl);obtain ⟨A',c',rfl,_,_⟩:=hsl.shape;obtain ⟨g',o',rfl,hlt⟩:=hsl.place (by simp);have e1:g'=z:=by simpa [Value.ownBlock] using hz
  rcases hG with e2 | e2<;>omega
 clear ba b2 ba2 bb2 s2 BR0 hs1 h;go_wp2
 go_loopw [5,13] (fun v5 v13 wr => ∃ (k:Nat) (T:List (List Int)) (us':List Value) (d:Int) (u:Value),k<=n/\Hid ((k=0/\T=[[x,y]])\/(k=1/\T=[[y]]/\d=x))/\zE2 .u64 4294967296 wr g 48 us' T/\Blk wr w2.heap.size 60 #[.bool (ngB d),u]/\IsS wr .u64 u (digs 4294967296 d.natAbs)/\Blk wr w.heap.size 60 #[.bool false,.slice none 0 0]/\Hid (w.grownBy wr (some g))/\Hid (zM3 us' (fun x=>x=w.heap.size\/x=w2.heap.size))/\Hid (∀ B,B<=w.heap.size->Apt w B us->Apt wr B us')/\v5=.bool false/\v13=.int .i64 (k:Int)) (fun _ v13 _=>n-(intOf v13).toNat)
 case atStart=>exact ⟨0,T0,us,O,_,by omega,(show _\/_ from .inl ⟨rfl,HT0.out⟩),TS0,BP0,s20,BR1,HG0,HO0,HA0,rfl,rfl⟩
 case round =>
  clear TS0 BP0 s20 BR1 HG0 HO0 HA0 CO;obtain ⟨k,T,us',d,u,hk,HD,TS,BP,su,BR,HG,HOF,HAP,rfl,rfl⟩:=hrel;obtain ⟨Au,cu,rfl,_⟩:=id su;by_cases hlt:k<n
  ·have HT:Hid (k=0/\T=[[x,y]]):=by
    show _/\_
    rcases HD.out with h1 | h1
    ·exact h1
    ·have:=hc.out.1
     omega
   have SL:=TS.sub (o:=k) (m:=n-k) (c:=n-k) (by rw [HT.out.2,HT.out.1,hc.out.1];exact zB1 1) (zB1 _) (by unfold maxLen;omega);go_wp2_with fail
   refine (jI0 _ _ _ SL (fun r hr=>by
    have h1:=List.mem_of_mem_drop (List.mem_of_mem_take hr);rw [HT.out.2] at h1;rw [List.mem_singleton.1 h1];exact Nat.zero_lt_succ _)).mono ?_
   rintro e w4 ⟨f,rfl,hf,hz,hnz,b4⟩
   have HF:Hid (f=0):=by
    have eL:(T.drop k).take (n-k)=[[x,y]]:=by rw [HT.out.1,HT.out.2,hc.out.1];rfl
    rw [eL] at hf hz;have h1:f<=1:=hf;show f=0
    by_cases h0:f=0
    ·exact h0
    ·have h2:zV1 [[x,y]] 0 0=0:=hz 0 (by omega);exact absurd (show x=0 from h2) hc.out.2
   have TS4:=TS.bQ b4;have BP4:=BP.bQ b4;have su4:=su.bQ b4;have BR4:=BR.bQ b4;have HG4:Hid (w.grownBy w4 (some g)):=zL HG.out b4;have HAP4:=hQ9 (fun (B:Nat) (hB:B<=w.heap.size) (h:Apt w B us)=>(HAP.out B hB h).grow (zQ9 b4));have hfl:f<n-k:=by have:=HF.out;omega
   clear TS BP su BR HG SL hf hz hnz b4 HAP HD
   go_upto_if 29 with (fail)
   have hb25:((k:Int)+(f:Int) == (n:Int))=false:=by rw [beq_eq_false_iff_ne];have:=HF.out;omega
   have hb29:decide ((k:Int)<(k:Int)+(f:Int))=false:=decide_eq_false (by have:=HF.out;omega);rw [hb25,hb29];clear hb25 hb29;obtain ⟨q,hQ⟩:∃ q,q=[x,y]:=⟨_,rfl⟩;have hq:T[k]?=some q:=by rw [HT.out.1,HT.out.2,hQ];rfl
   have HQ:=hQ9 hQ;have HTN:Hid (T.set k (q.drop 1)=[[y]]):=by rw [HT.out.1,HT.out.2,hQ];rfl
   have hql2:q.length=2:=by rw [hQ];rfl
   obtain ⟨Aq,cq,huq,ecq,sq⟩:=TS4.at_ hq;obtain ⟨gq,oq,rfl,hgq⟩:=sq.place (List.length_pos_iff.1 (by omega));have hcq:q.length<=cq:=by obtain ⟨A',c',e,h1,h2⟩:=sq.shape;injection e with _ _ e;omega
   have hql1:1<=q.length:=by omega
   have HOQ:=hQ9 (HOF.out _ (zA5 huq));have hq0:q[0]?=some x:=by rw [hQ];rfl
   obtain ⟨u0,hi0,p0,p1,e0⟩:=sq.at2 hq0;rw [show oq+0*2=oq by omega] at p0 p1;obtain ⟨Au0,cu0,rfl,_⟩:=id e0;obtain ⟨A1,hA1⟩:∃ A1:Option Addr,A1=if cq=1 then some ⟨gq,oq,none⟩ else some ⟨gq,oq+2,none⟩:=⟨_,rfl⟩
   have sV:=sq.cut1 hql1 hA1;have fN:=TS4.1.1.frozen k;have hgs:g≠w2.heap.size:=by omega
   have HA1:=hQ9 hA1;have HN1:Hid (k=0/\n=1):=⟨HT.out.1,hc.out.1⟩;obtain ⟨ql,hqlE⟩:∃ ql,ql=q.length:=⟨_,rfl⟩;have HQE:=hQ9 hqlE;rw [<- hqlE] at hcq hql1 hql2 ecq sV hi0 huq;have HUQ:Hid (us'[k]?=some (.slice (some ⟨gq,oq,none⟩) ql cq)):=huq;clear hq hQ huq hq0 hA1 hqlE hql2;go_wp2
   go_loop [52] (fun v52 => ∃ i:Nat,i<=n/\v52=.int .i64 (i:Int)) (fun v52=>n-(intOf v52).toNat)
   case atStart=>exact ⟨0,by omega,rfl⟩
   case round =>
    obtain ⟨i,hi,rfl⟩:=hrel;by_cases hin:i<n
    ·have hneq:((i:Int) != (k:Int))=false:=by rw [bne_eq_false_iff_eq];have:=HN1.out;omega
     go_wp2
     go_round
     case rel=>exact ⟨i+1,by omega,by go_num⟩
     case measure=>simp [intOf];omega
    ·have hix:=fun w=>yJ9 (P:=prog) underlying48 (by kernel_rfl) (g:=gq) (o:=oq) (c:=cq) hi0 w;obtain ⟨V0,V1,F0,F1⟩:=Blk.two BP4;go_upto_region 18 with (fail);go_region
     all_goals
      rw [<- HA1.out];have G1:=zE9 w4 g k (.slice A1 (ql-1) (cq-1));have TM1:=TS4.stored k sV;rw [HTN.out] at TM1;have e1:=TS4.1.keep G1 e0;have BP1:=Blk.grown BP4 G1 (fun e=>hgs e.symm)
      have HO1:=hQ9 (HOF.out.set (u:=.slice A1 (ql-1) (cq-1)) (fun x hx=>HOQ.out x (by
       rw [HA1.out] at hx
       split at hx<;>simpa [Value.ownBlock] using hx)) k)
      have G2:=qW4 (w4.setCell ⟨g,k,none⟩ (.slice A1 (ql-1) (cq-1))) w2.heap.size (.bool (ngB x)) (.slice Au0 (digs 4294967296 x.natAbs).length cu0);have TM2:=TM1.offZ BP1 no_ints2 (by decide) G2 (fun u hu e=>HO1.out u hu _ e (.inr rfl));have BP2:=qP3 BP1 (.bool (ngB x)) (.slice Au0 (digs 4294967296 x.natAbs).length cu0);have e2:=flow.off e1 BP1 no_ints2 G2;have BR2:=Blk.grown (Blk.grown BR4 G1 (show w.heap.size≠g by omega)) G2 (by omega);have TMf:=TM2.drew;have BPf:Blk _ _ _ _:=BP2.drew;have ef:=e2.drew;have BRf:Blk _ _ _ _:=BR2.drew
      have HAf:=hQ9 (fun (B:Nat) (hB:B<=w.heap.size) (h:Apt w B us)=>((HAP4.out B hB h).cut (x:=.slice A1 (ql-1) (cq-1)) HUQ.out (fun x hx=>by
       rw [HA1.out] at hx
       split at hx<;>simpa [Value.ownBlock] using hx)).grow ((zZ2 w4 g k (.slice A1 (ql-1) (cq-1))).trans (yK1 _ w2.heap.size (.bool (ngB x)) (.slice Au0 (digs 4294967296 x.natAbs).length cu0))))
      have HGf:=hQ9 (zL (zW9 (HG4.out.trans G1) G2 (Nat.le_of_lt hgP)) (Below.drew (Below.refl _ _)));clear G1 TM1 e1 BP1 G2 TM2 BP2 e2 BR2 TS4 BP4 su4 BR4 HG4 sq e0 sV ecq fN V0 V1 F0 F1 p0 p1 hix;go_wp2;go_roundw;case rel=>exact ⟨k+1,[[y]],_,x,_,by omega,(show _\/_ from .inr ⟨by have:=HN1.out;omega,rfl,rfl⟩),TMf,BPf,ef,BRf,HGf,HO1,HAf,rfl,by go_num⟩
      case measure=>simp [intOf];omega
  ·obtain rfl:k=n:=by omega
   have HDD:Hid (T=[[y]]/\d=x):=by
    show _/\_
    rcases HD.out with h1 | h1
    ·have:=hc.out.1
     omega
    ·exact h1.2
   obtain ⟨V0,V1,F0,F1⟩:=Blk.two BP;obtain ⟨U0,U1,G0,G1⟩:=Blk.two BR;have G8:=qW4 wr w.heap.size (.bool (ngB d)) (.slice Au (digs 4294967296 d.natAbs).length cu);have s8:=flow.off su BR no_ints2 G8;have TS8:=TS.offZ BR no_ints2 (by decide) G8 (fun u hu e=>HOF.out u hu _ e (.inl rfl));have HG8:=hQ9 (zW9 HG.out G8 (zB1 _));have HAZ:=hQ9 (fun (B:Nat) (hB:B<=w.heap.size) (h:Apt w B us)=>(HAP.out B hB h).grow (yK1 wr w.heap.size (.bool (ngB d)) (.slice Au (digs 4294967296 d.natAbs).length cu)));have B8:=qP3 BR (.bool (ngB d)) (.slice Au (digs 4294967296 d.natAbs).length cu);obtain ⟨C0,C1,-,-⟩:=Blk.two B8;clear G8 TS BP su BR HG B8;go_wp2;refine bodyPost_ret (v:=.tuple #[.agg #[.bool (ngB d),.slice Au (digs 4294967296 d.natAbs).length cu],.bool false]) (by simp [results,results73,go_sem,C0,C1]) rfl ?_;exact ⟨HG8.out,us',_,rfl,by rw [<- HDD.out.2];exact ⟨_,rfl,s8⟩,by rw [<- HDD.out.1];exact TS8,HAZ.out⟩
def sgn (b:Bool) (x:Int):Int:=if b=true then -x else x
theorem sgn_sg (b:Bool) (x:Int):sg (!(ngB x == b)) x.natAbs=sgn b x:=by
 cases b
 ·have e:(!(ngB x == false))=ngB x:=by cases ngB x<;>rfl
  rw [e];exact zW x
 ·have e:(!(ngB x == true)) = !(ngB x):=by cases ngB x<;>rfl
  rw [e];exact qS3 x
theorem yK2 (b0:Bool) (a0:Value) (x:Int) (w:World) (h0:IsZ w a0 x) (hl:zC5 x<=100000) :
  Calls prog 75 #[.bool b0,a0] w (zF6 (sgn b0 x) w):=by
 obtain ⟨u0,rfl,s0⟩:=h0;obtain ⟨A0,c0,rfl,_⟩:=id s0;obtain ⟨X,hX⟩:∃ X,X=sgn b0 x:=⟨_,rfl⟩;rw [<- hX];have HZ:Hid (sg (!(ngB x == b0)) x.natAbs=X):=by show _=_;rw [hX];exact sgn_sg b0 x
 have HL:Hid ((digs 4294967296 x.natAbs).length<=1000000):=by show _<=_;unfold zC5 at hl;omega
 clear hX
 go_enter func75,ntmps75
 go_upto_region 1 with (fail)
 obtain ⟨wx,hwx,bb,B0,B1,hsz⟩:=zI4 w 60 60 #[.bool (ngB x),.slice A0 (digs 4294967296 (x).natAbs).length c0] #[.bool false,.slice none 0 0];rw [hwx];clear hwx;have k0s:=s0.bQ bb;have hszb:=bb.size;refine zC3 7 [Pd.eq (.pointer (some ⟨w.heap.size,0,none⟩)),Pd.eq (.bool (ngB x)),Pd.eq (.bool b0),Pd.eq (.bool (!(ngB x == b0))),Pd.eq (.pointer (some ⟨w.heap.size,1,none⟩)),Pd.eq (.slice A0 (digs 4294967296 (x).natAbs).length c0),pz X wx.heap.size] (by kernel_rfl) ?ob1 ?done1
 case ob1 =>
  refine zA (zB9 rfl (zB3 rfl) (zB5 rfl rfl) (fun _=>by kernel_rfl) (fun _=>rfl)) ?_;refine zA (zB7 rfl (zB3 rfl) (zB4 (j:=0) (by kernel_rfl) rfl rfl) (fun w2 hb=>zC1 underlying4 rfl ((B0.bQ hb).cell 0)) (fun _ _=>rfl)) ?_;refine zA (zB8 rfl (zB3 rfl) (zB5 rfl rfl) (fun _ _ h=>h)) ?_;refine zA (zE6 rfl (zB3 rfl) (zB4 (j:=1) (by kernel_rfl) rfl rfl) (zB4 (j:=2) (by kernel_rfl) rfl rfl) (fun _ _ _ hx hy=>⟨_,by rw [hx,hy];exact qL1 _ _ _ _ underlying4 _,rfl⟩)) ?_;refine zA (zB9 rfl (zB3 rfl) (zB5 rfl rfl) (fun _=>by kernel_rfl) (fun _=>rfl)) ?_;refine zA (zB7 rfl (zB3 rfl) (zB4 (j:=4) (by kernel_rfl) rfl rfl) (fun w2 hb=>zC1 underlying50 rfl ((B0.bQ hb).cell 1)) (fun _ _=>rfl)) ?_;refine zA (zC7 rfl func57 (by kernel_rfl) (zB3 rfl) (zB4 (j:=3) (by kernel_rfl) rfl rfl) (zB4 (j:=5) (by kernel_rfl) rfl rfl) (fun w2 u0 u1 hb h0 h1=>by obtain rfl:=h0;obtain rfl:=h1;exact (whl.made_any _ _ _ X _ (k0s.bQ hb) HL.out HZ.out.symm).mono fun e w3 h=>zF6.pd h hb.size)) ?_
  trivial
 case done1 =>
  refine fun w1 hb1 v0 h0 v1 h1 v2 h2 v3 h3 v4 h4 v5 h5 v6 h6 b hbf => ?_;obtain rfl:=h0;obtain rfl:=h1;obtain rfl:=h2;obtain rfl:=h3;obtain rfl:=h4;obtain rfl:=h5;obtain ⟨q5,f5⟩:=h6;simp only [Act.put,zA0,zA2,zA1] at hbf;subst hbf;obtain ⟨u5,rfl,q5⟩:=q5;obtain ⟨A9,c9,rfl,_⟩:=id q5;have B9:=B1.bQ hb1;refine zH0 (i:=7) rfl rfl rfl rfl rfl rfl (cells:=[.bool (ngB X),.slice A9 (digs 4294967296 X.natAbs).length c9]) rfl B9 rfl (by kernel_rfl) (zG8 rfl rfl) fun w9 hg9 BB9 => ?_;have k9:=flow.off q5 B9 no_ints2 hg9;have f9:=(f5 _ _ rfl).mono (show w.heap.size<=wx.heap.size from bb.size);have bb9:=((bb.trans (hb1.mono bb.size)).trans ((Below.refl _ _).grown hg9 (zB2 bb.size hb1.size) (fun g hg=>by injection hg with hg;omega)));obtain ⟨c0,c1,_,_⟩:=Blk.two BB9;refine zC4 ?_;go_wp2;exact bodyPost_ret (v:=.agg #[.bool (ngB X),.slice A9 (digs 4294967296 X.natAbs).length c9]) (by simp [results,results75,go_sem,c0,c1]) rfl ⟨_,rfl,zG9 k9 rfl rfl,zL7 f9,bb9⟩
theorem yK3:∃ i,prog.info? 48=some i/\i.zero=some (.slice none 0 0)/\i.size=1/\i.bytes=24:=info_parts (P:=prog) (e:=48) (z:=.slice none 0 0) (size:=1) (bytes:=24) (by kernel_rfl)
theorem digs_one:digs 4294967296 1=[1]:=by decide +kernel
def isB (v:Value):Prop:=(∃ b,v=.bool b) \/ ∃ A n c,v=.slice A n c
def zH1 (e:TypeId) (w:World) (base:Nat) (v:Value) (ps:List (Int × Value)):Prop:=w.ownsRow base e 2 v ps.length (zF ps) /\ ∀ g,v.ownBlock=some g -> ∃ cs,w.heap[g]?=some (.cells cs e (0,0)) /\ ∀ c∈cs,isB c
def qC1 (ps:List (Int × Value)):Prop:=∀ p∈ps,∃ A n c,p.2=.slice A n c
theorem jI4 {ps:List (Int × Value)} (h:qC1 ps):∀ c∈zF ps,isB c:=fun c hc=>by
 obtain ⟨p,hp,hc⟩:=List.mem_flatMap.1 hc;obtain ⟨A,n,d,e⟩:=h p hp;simp only [e,List.mem_cons,List.not_mem_nil,or_false] at hc;rcases hc with rfl|rfl
 ·exact .inl ⟨_,rfl⟩
 ·exact .inr ⟨_,_,_,rfl⟩
theorem isB_one {c:Value} (h:isB c):c.oneCell'=true:=by
 rcases h with ⟨b,rfl⟩|⟨A,n,d,rfl⟩<;>rfl
theorem jI5 (e:TypeId) (w:World) (base:Nat):zH1 e w base (.slice none 0 0) []:=⟨World.ownsRow_nil w base e 2,fun g h=>by cases h⟩
section
variable {P:Program}
theorem jI6 {w:World} {base:Nat} {t ty e:TypeId} (hT:P.underlying t=some (.slice e)) (hI:∃ i,P.info? e=some i/\i.zero=some (.agg #[.bool false,.slice none 0 0])/\i.size=2/\i.bytes=32) {v:Value} {ps news:List (Int × Value)} (hown:zH1 e w base v ps) {ad:Addr} {m c:Nat} (hm:m=news.length) (hm0:0<m)
  (hr:∀ (i:Nat) (u:Value),(zF news)[i]?=some u->w.cell? (ad.add i)=some u) (h1:qC1 news) (hlen:ps.length+m<=1000000000) (hbase:base<=w.heap.size) :
  ∃ v' w',(Builtin.append_ #[t,t] ty #[v,.slice (some ad) m c]).run P w=.ok v' w'/\zH1 e w' base v' (ps ++ news)/\w.grownBy w' v.ownBlock/\(v'.ownBlock=v.ownBlock\/v'.ownBlock=some w.heap.size):=by
 obtain ⟨i,hi,hz,hs,hby⟩:=hI;subst hm;have hB:=jI4 h1;have one:∀ u∈zF news,u.oneCell'=true:=fun u hu=>isB_one (hB u hu);have hl:(zF news).length=news.length*i.size:=by rw [hs,qP1]
 have zs:∀ n,∀ c∈Builtin.zeroCells (Value.agg #[.bool false,.slice none 0 0]).cells n,isB c:=by
  intro n c hc;unfold Builtin.zeroCells at hc;rw [show (Value.agg #[.bool false,.slice none 0 0]).cells = #[.bool false,.slice none 0 0] from rfl] at hc;simp at hc;obtain ⟨j,_,rfl⟩:=hc;rcases (show j % 2=0\/j % 2=1 by omega) with e | e
  ·simp [e];exact .inl ⟨_,rfl⟩
  ·simp [e];exact .inr ⟨_,_,_,rfl⟩
 obtain ⟨v',w',g1,g2,g3,_,g5⟩:=run_append_own_at (P:=P) w base t ty e i (.agg #[.bool false,.slice none 0 0]) 2 32 hT hi hz hs hby rfl (by decide) v ps.length (zF ps) hown.1 ad news.length c (zF news) (by rw [qP1]) (fun j u hu=>hr j u hu) one (by unfold maxLen;omega) (by omega) hbase;refine ⟨v',w',g1,⟨by rw [zA8,show zF (ps ++ news)=zF ps ++ zF news by simp [zF]];exact g2,fun g hg => ?_⟩,g3,g5⟩;rcases hown.1.2 with ⟨rfl,h0⟩|⟨g',cap,cur,rfl,hbg,hgg,hnc,hcm,hcs,htake⟩
 ·have hx:ps=[]:=List.eq_nil_of_length_eq_zero h0;subst hx;have hr2:=run_append_nil (P:=P) w t ty e i (.agg #[.bool false,.slice none 0 0]) hT hi hz ad news.length c (zF news) hl hr hm0 (by omega) (by rw [hby];simp at hlen;omega);rw [hr2] at g1;injection g1 with g1 g1';subst g1;subst g1';obtain rfl:w.heap.size=g:=by simpa [Value.ownBlock] using hg
  refine ⟨_,heap_alloc_new w.drew _,fun c hc => ?_⟩;rcases Array.mem_append.1 hc with hc | hc
  ·exact hB c (by simpa using hc)
  ·exact zs _ c hc
 ·obtain ⟨cs,hcs1,hcs2⟩:=hown.2 g' rfl;rw [hgg] at hcs1;injection hcs1 with hcs1;injection hcs1 with hcs1 _ _;subst hcs1;by_cases hroom:ps.length+news.length<=cap
  ·have hfit:ps.length*i.size+(zF news).length<=cur.size:=by rw [hcs,hs,qP1];omega
   have hr2:=run_append_room (P:=P) w t ty e i hT hi g' ps.length cap cur hgg ad news.length c (zF news) hl hr one hroom hfit;rw [hr2] at g1;injection g1 with g1 g1';subst g1;subst g1';obtain rfl:g'=g:=by simpa [Value.ownBlock] using hg
   refine ⟨_,setRow_heap w g' cur _ e _ hgg,fun c hc => ?_⟩;have hc2:c∈cur.toList.take (ps.length*i.size) ++ zF news ++ cur.toList.drop (ps.length*i.size+(zF news).length):=by simpa using hc
   rcases List.mem_append.1 hc2 with hc2 | hc2
   ·rcases List.mem_append.1 hc2 with hc2 | hc2
    ·exact hcs2 c (by simpa using List.mem_of_mem_take hc2)
    ·exact hB c hc2
   ·exact hcs2 c (by simpa using List.mem_of_mem_drop hc2)
  ·have holds:∀ j u,(zF ps)[j]?=some u->w.cell? ((⟨g',0,none⟩:Addr).add j)=some u:=World.ownsRow.cells hown.1 (g:=g') rfl;have hr2:=run_append_grow (P:=P) w t ty e i (.agg #[.bool false,.slice none 0 0]) hT hi hz ⟨g',0,none⟩ ps.length cap (zF ps) (by rw [hs,qP1]) holds ad news.length c (zF news) hl hr (by omega) (by omega) (growslice_fits (by omega) (by rw [hby];omega));rw [hr2] at g1;injection g1 with g1 g1';subst g1;subst g1';obtain rfl:w.heap.size=g:=by simpa [Value.ownBlock] using hg
   refine ⟨_,heap_alloc_new w.drew _,fun c hc => ?_⟩;rcases Array.mem_append.1 hc with hc | hc
   ·rcases Array.mem_append.1 hc with hc | hc
    ·have hcv:c∈zF ps:=by simpa using hc
     rw [<- htake] at hcv;exact hcs2 c (by simpa using List.mem_of_mem_take hcv)
    ·exact hB c (by simpa using hc)
   ·exact zs _ c hc
end
end rat
namespace rat
open Go.RowKit Go.Shelf num mem nat txt str flow whl
attribute [local go_sem] Oper.semAt_some
theorem jI7 {F:Fence} {n:Nat} {P:Program} {ops:Array Oper} {Q:Exit->Act->World->Prop} {i:Nat} {K:Act->World->Prop} {a:Act} {w:World} (l:Nat) (hro:F.round=none) (hd:∀ (j:Nat) (o:Oper),ops[j]?=some o -> ∀ c,o.op ≠ .defer c) (h:wpOpIn F n P ops Q i K a w):wpOpIn (F.inRound l) n P ops Q i K a w:=by
 unfold wpOpIn at *
 split
 ·rename_i e
  rw [e] at h;exact h
 ·rename_i o e
  simp only [e] at h
  split
  ·rename_i hw
   simp only [hw,if_true] at h;unfold Oper.wpIn at *;refine ⟨h.1,?_⟩;have h:=h.2;rw [hro,Oper.semAt_none] at h;rw [Fence.inRound_round,Oper.semAt_some l _ o (hd i o e)]
   generalize (execOp a.eval o).run P w=r at *
   cases r with
   | ok x w'=>cases x<;>exact h
   | halt x w'=>cases x<;>exact h
  ·rename_i hw
   simp only [hw] at h;exact h
theorem yK4 {F:Fence} {n:Nat} {P:Program} {md:Region.Mode} {ops:Array Oper} {Q:Exit->Act->World->Prop} (l:Nat) (hro:F.round=none) (hd:∀ (j:Nat) (o:Oper),ops[j]?=some o -> ∀ c,o.op ≠ .defer c):∀ (fuel:Nat) (listed:Array Bool) (a:Act) (w:World),wpAnyIn F n P md ops Q fuel listed a w->wpAnyIn (F.inRound l) n P md ops Q fuel listed a w
 | 0,_,_,_,h=>h
 | fuel+1,listed,a,w,h=>⟨h.1,fun i hi=>jI7 l hro hd (wpOpIn_mono (fun a w h=>yK4 l hro hd fuel _ a w h) (h.2 i hi))⟩
theorem jI8 {n:Nat} {P:Program} {l:List Oper} {Q:Exit->Act->World->Prop} {id:Nat} {a:Act} {w:World} (r:Nat) (hm:P.follows .mixedOrders=true) (hd:l.all (fun o=>match o.op with | .defer _=>false | _=>true)=true)
  (h:wpAnyIn Fence.wide n P .any l.toArray Q l.length (Array.replicate l.length false) a w.drew):(Code.region id l.toArray true).wpIn (Fence.wide.inRound r) n P Q a w:=by
 refine wpIn_region_any hm ?_;refine yK4 r rfl (fun j o hj c hc => ?_) _ _ _ _ h;have h1:=List.all_eq_true.1 hd o (by simpa using zA5 (by simpa using hj));rw [hc] at h1;cases h1
theorem IsS.own {w w':World} {row:Option Nat} {k:IntKind} {v:Value} {l:List Nat} (h:IsS w k v l) (hg:w.grownBy w' row) (hr:∀ x,row=some x -> ∃ o:Obj,w.heap[x]?=some o/\o.isCells=false):IsS w' k v l:=by
 obtain ⟨A,c,e,h1,h2,h3⟩:=h;refine ⟨A,c,e,h1,h2,fun i d hd => ?_⟩;obtain ⟨ad,h4,h5⟩:=h3 i d hd;exact ⟨ad,h4,cell_kept h5 hg hr⟩
theorem SlF.own {w w':World} {row:Option Nat} {k:IntKind} {B:Nat} {v:Value} {r:List Rat} (h:SlF k B w v r) (hg:w.grownBy w' row) (hr:∀ x,row=some x -> ∃ o:Obj,w.heap[x]?=some o/\o.isCells=false):SlF k B w' v r:=by
 obtain ⟨ps,h1,⟨A,c,e1,h2,h3,h4⟩,h5⟩:=h;refine ⟨ps,h1,⟨A,c,e1,h2,h3,fun i p hp => ?_⟩,fun p hp=>⟨IsS.own (h5 p hp).1 hg hr,IsS.own (h5 p hp).2 hg hr⟩⟩;obtain ⟨g',o,e2,c0,c1,c2⟩:=h4 i p hp;exact ⟨g',o,e2,cell_kept c0 hg hr,cell_kept c1 hg hr,cell_kept c2 hg hr⟩
theorem zD7.ownK {w w':World} {row:Option Nat} {k:IntKind} {B g:Nat} {TS:TypeId} {us:List Value} {T:List (List Rat)} (h:zD7 k B w g TS us T) (hg:w.grownBy w' row) (hr:∀ x,row=some x -> ∃ o:Obj,w.heap[x]?=some o/\o.isCells=false):zD7 k B w' g TS us T:=by
 refine ⟨h.1.grown hg fun e => ?_,h.2.1,fun i u r hu h2=>SlF.own (h.2.2 i u r hu h2) hg hr⟩;obtain ⟨o,h1,h2⟩:=hr g e;have h3:=h.1.1;unfold Blk at h3;rw [h1] at h3;injection h3 with h3;subst h3;cases h2
def KpG (g n0:Nat) (W W':World):Prop:=W.heap.size<=W'.heap.size /\ ∀ k,k<n0->k<W.heap.size->k≠g->W'.heap[k]?=W.heap[k]?
theorem KpG.refl (g n0:Nat) (W:World):KpG g n0 W W:=⟨zB1 _,fun _ _ _ _=>rfl⟩
theorem KpG.trans {g n0:Nat} {A B C:World} (h:KpG g n0 A B) (k:KpG g n0 B C):KpG g n0 A C :=
 ⟨zB2 h.1 k.1,fun i hi hl hg=>(k.2 i hi (bY2 hl h.1) hg).trans (h.2 i hi hl hg)⟩
theorem KpG.cell {g n0:Nat} {W W':World} {p:Addr} {v:Value} (h:KpG g n0 W W') (hp:W.cell? p=some v) (hn:p.block<n0) (hg:p.block≠g):W'.cell? p=some v:=by
 have h1:=h.2 p.block hn (bQ0 _ _ hp) hg;exact (World.cell?_of_block h1).trans hp
abbrev BkT (ps:List Nat):={ x:Nat × Nat // x.1<ps.length/\x.2=pv ps x.1 }
def bkE {ps:List Nat} (x:BkT ps):Array Value:=#[.int .i64 (x.1.1:Int),.int .i64 (x.1.2:Int)]
def zO5 {ps:List Nat} (xs:List (BkT ps)):Prop:=∀ (t:Nat) (x:BkT ps),xs[t]?=some x->x.1.1+t+1=ps.length
theorem zO5.snoc {ps:List Nat} {xs:List (BkT ps)} {x:BkT ps} (h:zO5 xs) (hx:x.1.1+xs.length+1=ps.length):zO5 (xs ++ [x]):=fun t y hy=>by
 by_cases ht:t<xs.length
 ·rw [zB0 ht] at hy;exact h t y hy
 ·rw [bW0 (by omega)] at hy
  have e:t-xs.length=0:=by
   have:=(zA4.1 hy).1
   simp at this;omega
  rw [e] at hy;obtain rfl:x=y:=by simpa using hy
  omega
theorem zO5.init {ps:List Nat} {xs:List (BkT ps)} {x:BkT ps} (h:zO5 (xs ++ [x])):zO5 xs/\x.1.1+xs.length+1=ps.length :=
 ⟨fun t y hy=>h t y (by rw [zB0 (zA4.1 hy).1];exact hy),h xs.length x (by rw [bW0 (zB1 _)];simp)⟩
theorem jI9 (F:Fence) (n:Nat) (hf:F.fn 154) (hro:F.round=none) (hn:1<=n) (l Bs g n0 c:Nat) (A:Option Addr) (ps:List Nat) (hps:ps.length<=1000) (J Jx:List (BkT ps)->World->Prop)
  (hY : ∀ pre x W, J pre W -> pre.length < ps.length -> YieldAt F (n - 1) prog l (bkE x) W fun e W' =>
   (e=.returned (.bool true)/\J (pre ++ [x]) W'/\KpG g n0 W W')\/(e=.returned (.bool false)/\Jx (pre ++ [x]) W'))
  (W:World) (hBs:W.cell? ⟨Bs,0,none⟩=some (.slice A ps.length c)) (hBn:Bs<n0) (hBg:Bs≠g) (hc:∀ i,i<ps.length -> ∃ ad,A=some ad/\ad.block<n0/\ad.block≠g/\W.cell? (ad.add i)=some (.int .i64 (pv ps i:Int))) (h0:J [] W) :
  CallsIn F n prog 154 #[.func (.yield l) #[] #[],.pointer (some ⟨Bs,0,none⟩)] W fun e W'=>(∃ v,e=.returned v) /\
   ((∃ xs:List (BkT ps),(xs.length=ps.length/\zO5 xs)/\J xs W')\/(∃ pre,True/\Jx pre W')):=by
 refine callsIn_of_wp func154 rfl hf ?_ hro;simp only [ntmps154,List.size_toArray,bX3,List.length_nil,Nat.reduceAdd,Nat.reduceSub,Array.replicate_succ,Array.replicate_zero,List.push_toArray,List.append_toArray,List.nil_append,List.cons_append]
 gi_wp2
 gi_loopw [3] (fun v3 wr => ∃ (z:Int) (xs:List (BkT ps)),z=(ps.length:Int)-1-(xs.length:Int)/\xs.length<=ps.length/\Hid (zO5 xs)/\v3=.int .i64 z/\Hid (J xs wr)/\Hid (KpG g n0 W wr)) (fun v3 _=>(intOf v3+1).toNat)
 case atStart=>exact ⟨_,[],by simp,Nat.zero_le _,(fun t x h=>by simp at h),rfl,h0,KpG.refl _ _ _⟩
 case round =>
  obtain ⟨z,xs,hz,hxl,HB,rfl,HJ,HK⟩:=hrel;have hBr:=HK.out.cell hBs hBn hBg;by_cases hlt:xs.length<ps.length
  ·obtain ⟨i,rfl⟩:∃ i:Nat,z=i:=⟨ps.length-1-xs.length,by omega⟩;have hip:i<ps.length:=by omega
   obtain ⟨ad,rfl,ha1,ha2,ha3⟩:=hc i hip;have hcx:=HK.out.cell ha3 (by unfold Addr.add;split<;>exact ha1) (by unfold Addr.add;split<;>exact ha2);obtain ⟨x,hx⟩:∃ x:BkT ps,x=⟨(i,pv ps i),hip,rfl⟩:=⟨_,rfl⟩;have hxe:bkE x = #[.int .i64 (i:Int),.int .i64 (pv ps i:Int)]:=by rw [hx];rfl
   have hxi:x.1.1=i:=by rw [hx]
   obtain ⟨fn,tmps,assign,body,hy,hR⟩:=hY xs x wr HJ.out hlt;rw [hxe] at hy;have HX:=hQ9 hxi;have HZ:=hQ9 hz;clear hx hxe hxi hz ha3 hc;have h0i:(0:Int)<=(i:Int):=by omega
   gi_wp2
   refine hR.mono ?_;rintro e W3 (⟨rfl,hJ3,hk3⟩|⟨rfl,hJx3⟩)
   ·have HB3:Hid (zO5 (xs ++ [x])):=HB.out.snoc (by rw [HX.out];have:=HZ.out;omega);have HK3:Hid (KpG g n0 W W3):=HK.out.trans hk3;have HJ3:=hQ9 hJ3;clear hJ3 hk3
    gi_wp2
    go_roundw;case rel=>exact ⟨(i:Int)-1,xs ++ [x],by (have:=HZ.out;first | (simp;omega) | (simp;done) | omega),by simp;omega,HB3,by go_num,HJ3,HK3⟩
    case measure=>first | (simp [intOf];omega) | (simp [intOf];done)
   ·gi_wp2
    refine bodyPost_ret (results_none rfl _ _ _) rfl ?_;exact ⟨⟨_,rfl⟩,.inr ⟨_,trivial,hJx3⟩⟩
  ·have hz0:¬ (0:Int)<=z:=by omega
   have hxe:xs.length=ps.length:=by omega
   have HXE:=hQ9 hxe;clear hxe
   gi_wp2
   go_end0
   exact ⟨⟨_,rfl⟩,.inl ⟨xs,⟨HXE.out,HB.out⟩,HJ.out⟩⟩
theorem back_in (F:Fence) (n:Nat) (hf:F.fn 131) (hro:F.round=none) (a:Option Addr) (len cap:Nat) (w:World) :
  CallsIn F n prog 131 #[.slice a len cap] w fun e w'=>e=.returned (.func (.func 154) #[] #[.pointer (some ⟨w.heap.size,0,none⟩)])/\w'=w.alloc (.cells #[.slice a len cap] 36):=by
 refine callsIn_of_wp func131 rfl hf ?_ hro;simp only [ntmps131,List.size_toArray,bX3,List.length_nil,Nat.reduceAdd,Nat.reduceSub,Array.replicate_succ,Array.replicate_zero,List.push_toArray,List.append_toArray,List.nil_append,List.cons_append]
 gi_wp2
 go_ret;exact ⟨rfl,rfl⟩
theorem jJ (F:Fence) (n:Nat) (hf:F.fn 154) (hro:F.round=none) (hn:1<=n) (Bs g c:Nat) (A:Option Addr) (ps:List Nat) (hps:ps.length<=1000) (w:World)
  (hBs:w.cell? ⟨Bs,0,none⟩=some (.slice A ps.length c)) (hBg:Bs≠g) (hc:∀ i,i<ps.length -> ∃ ad,A=some ad/\ad.block≠g/\w.cell? (ad.add i)=some (.int .i64 (pv ps i:Int))) :
  SeqStopsK F n prog 154 #[.pointer (some ⟨Bs,0,none⟩)] (bkE (ps:=ps)) (KpG g w.heap.size) (fun xs=>xs.length=ps.length/\zO5 xs) (fun _=>True) ps.length w:=fun l J Jx W hW _ _ hY h0=>by
 have hB1:=bQ0 _ _ hBs
 exact jI9 F n hf hro hn l Bs g w.heap.size c A ps hps J Jx hY W ((hW.cell hB1).trans hBs) hB1 hBg (fun i hi=>by
  obtain ⟨ad,e,h1,h2⟩:=hc i hi;have h3:=bQ0 _ _ h2;have h4:(ad.add i).block=ad.block:=by unfold Addr.add;split<;>rfl
  exact ⟨ad,e,by rw [<- h4];exact h3,h1,(hW.cell h3).trans h2⟩) h0
def UpI (T0:List (List Rat)) (g n C a S:Nat) (ps:List Nat) (w:World) (xs:List (BkT ps)) (W:World):Prop:=∃ (us:List Value) (T:List (List Rat)) (S':Nat),shp T n C/\zG0 T S'/\S'+1<=(S+1)*2^xs.length/\zD7 .u64 4294967296 W g 44 us T/\(zO5 xs->Upw T0 T n C a ps (ps.length-xs.length) S)/\W.cell? ⟨w.heap.size,0,none⟩=some (.slice (some ⟨g,0,none⟩) n n)/\w.grownBy W (some g)
theorem UpI.ownFrom (T0:List (List Rat)) (g n C a S:Nat) (ps:List Nat) (w:World) {B:Nat} (hB:w.heap.size<=B):OwnFrom B (UpI T0 g n C a S ps w):=fun xs W W' row h hg hr=>by
 obtain ⟨us,T,S',h1,h2,h3,h4,h5,h6,h7⟩:=h;have hr2:∀ x,row=some x -> ∃ o:Obj,W.heap[x]?=some o/\o.isCells=false:=fun x e=>(hr x e).2;refine ⟨us,T,S',h1,h2,h3,zD7.ownK h4 hg hr2,h5,cell_kept h6 hg hr2,?_⟩
 cases e:row with
 | none=>rw [e] at hg;exact zL h7 ⟨hg.os,hg.tape,hg.output,hg.size,fun k hk=>hg.block k hk (by simp)⟩
 | some x=>rw [e] at hg;exact zW9 h7 hg (zB2 hB (hr x e).1)
def RetUp (T0:List (List Rat)) (g n C a S:Nat) (ps:List Nat) (w:World) (e:Ending) (w':World):Prop:=e=.returned (.tuple #[]) /\ ∃ us T,Upw T0 T n C a ps 0 S/\zD7 .u64 4294967296 w' g 44 us T/\w.grownBy w' (some g)
theorem gup_any (g n C a S c6:Nat) (A6:Option Addr) (us:List Value) (ps:List Nat) (T0 T:List (List Rat)) (w:World) (h:zD7 .u64 4294967296 w g 44 us T) (hp:∀ i,i<ps.length -> ∃ ad,A6=some ad/\ad.block≠g/\w.cell? (ad.add i)=some (.int .i64 (pv ps i:Int)))
  (hc:Hid (shp T n C/\a<=C/\n<=5/\C<=1000/\zG0 T S/\(S+1)*2^(ps.length-1)<=2450/\Ech n a (zB6 T) ps.length (pv ps)/\zE4 n C (zB6 T0) (zB6 T))) :
  Calls prog 91 #[.slice (some ⟨g,0,none⟩) n n,.slice A6 ps.length c6] w (RetUp T0 g n C a S ps w):=by
 have hle:=hc.out.2.2.2.2.2.2.1.le;have hn5:=hc.out.2.2.1;have hC:=hc.out.2.2.2.1;have hgl:=h.lt;refine (callsIn_wide (n:=3)).1 ?_;refine callsIn_of_wp_marks func91 rfl trivial ?_ rfl;simp only [ntmps91,List.size_toArray,bX3,List.length_nil,Nat.reduceAdd,Nat.reduceSub,Array.replicate_succ,Array.replicate_zero,List.push_toArray,List.append_toArray,List.nil_append,List.cons_append]
 gi_wp2
 refine ⟨trivial,?_⟩
 gi_at_call 131
 refine (back_in Fence.wide _ trivial rfl _ _ _ _).mono ?_;rintro e w' ⟨rfl,rfl⟩
 gi_wp2
 have hgr0:w.grownBy ((w.alloc (.cells #[.slice (some ⟨g,0,none⟩) n n] 22)).alloc (.cells #[.slice A6 ps.length c6] 36)) none:=(World.grownBy_alloc _ _ none).trans (World.grownBy_alloc _ _ none)
 have hs:((w.alloc (.cells #[.slice (some ⟨g,0,none⟩) n n] 22)).alloc (.cells #[.slice A6 ps.length c6] 36)).cell? ⟨w.heap.size,0,none⟩=some (.slice (some ⟨g,0,none⟩) n n) :=
  cell_kept (by rw [World.cell?_alloc_new];rfl) (World.grownBy_alloc _ _ none) (fun r e=>by cases e)
 have hb:((w.alloc (.cells #[.slice (some ⟨g,0,none⟩) n n] 22)).alloc (.cells #[.slice A6 ps.length c6] 36)).cell? ⟨w.heap.size+1,0,none⟩=some (.slice A6 ps.length c6):=by
  have:=World.cell?_alloc_new (w:=w.alloc (.cells #[.slice (some ⟨g,0,none⟩) n n] 22)) #[.slice A6 ps.length c6] 36 0
  rw [World.size_alloc] at this;exact this
 have hT0:=zD7.ownK h hgr0 (fun x e=>by cases e);obtain ⟨W0,hW0⟩:∃ W0,((w.alloc (.cells #[.slice (some ⟨g,0,none⟩) n n] 22)).alloc (.cells #[.slice A6 ps.length c6] 36))=W0:=⟨_,rfl⟩;have hsz:W0.heap.size=w.heap.size+2:=by rw [<- hW0];simp
 rw [hW0] at hgr0 hs hb hT0 |-
 refine wpIn_rangeFunc_ownF rfl (by omega) (gf:=154) (lb:=#[.pointer (some ⟨w.heap.size+1,0,none⟩)]) rfl trivial (enters_of func154 (by kernel_rfl) rfl)
  (jJ Fence.wide _ trivial rfl (by omega) (w.heap.size + 1) g c6 A6 ps (by omega) W0 hb (by omega) (fun i hi => by
   obtain ⟨ad,e,h1,h2⟩:=hp i hi;exact ⟨ad,e,h1,cell_kept h2 hgr0 (fun r e=>by cases e)⟩))
  KpG.trans (fun W l o o' hl hW ho hwk=>⟨(grownBy_putObj' W l o').size,fun k hk hkw hkg=>(grownBy_putObj' W l o').block k hkw (fun e=>by injection e with e;omega)⟩) (Below.refl _ _) (fun _=>rfl)
  (UpI T0 g n C a S ps w) (fun _ _ _=>False)
  (UpI.ownFrom T0 g n C a S ps w (by omega))
  (fun _ _ _ _ _ hs _ _=>hs)
  ⟨us,T,S,hc.out.1,hc.out.2.2.2.2.1,by simp,hT0,fun _=>Upw.start hc.out.1 hc.out.2.2.2.2.2.2.1 hc.out.2.2.2.2.2.2.2 hc.out.2.2.2.2.1,hs,⟨hgr0.os,hgr0.tape,hgr0.output,hgr0.size,fun k hk _=>hgr0.block k hk (by simp)⟩⟩
  (fun x => { tmps:=#[.slice (some ⟨g,0,none⟩) n n,.slice A6 ps.length c6,.pointer (some ⟨w.heap.size,0,none⟩),undef,.int .i64 (x.1.1:Int),.int .i64 (x.1.2:Int),.slice A6 ps.length c6,.func (.func 154) #[] #[.pointer (some ⟨w.heap.size+1,0,none⟩)],.int .i64 (x.1.1:Int),.int .i64 (x.1.2:Int),undef,undef,undef,undef,undef,undef,undef,undef,undef],defers:=[] }) ?assign ?body ?done ?stop
 case assign =>
  intro l x W K hK;simp only [bkE]
  gi_wp2
  exact hK
 case body =>
  rintro l pre x W ⟨us1,T1,S1,q1,q2,q3,q4,q5,q6,q7⟩ hlen;obtain ⟨⟨i,p⟩,hip,hpe⟩:=x
  dsimp only at hip hpe
  subst hpe;obtain ⟨r,hr,hrl⟩:=zI0 q1 (show i<n by omega);obtain ⟨Ar,cr,hu,hcl,hsr⟩:=q4.at_ hr;have HQ:=hQ9 (zA q1 (zA q2 (zA q3 q5)))
  have hS1:Hid (S1+S1<=4900):=by
   have e2:(S+1)*2^pre.length<=(S+1)*2^(ps.length-1):=bY _ (bX9 (by omega) (by omega));have e3:=hc.out.2.2.2.2.2.1;exact (by omega:S1+S1<=4900)
  have hai:pv ps i<C:=bY2 (hc.out.2.2.2.2.2.2.1.lt i hip) hc.out.2.1;obtain ⟨b,hbp⟩:∃ b,b=pv ps i:=⟨_,rfl⟩;have HBP:=hQ9 hbp
  have CC:∀ w',zD7 .u64 4294967296 w' g 44 us1 T1->SlF .u64 4294967296 w' (.slice Ar r.length cr) r->Calls prog 130 #[.slice (some ⟨g,0,none⟩) i n,.slice Ar r.length cr,.int .i64 (pv ps i:Int)] w' (qO9 g us1 (upT T1 i (pv ps i)) w'):=fun w' k1 k2=>by
   have:=yJ5 g 0 i n (pv ps i) n C S1 us1 (.slice Ar r.length cr) r T1 (fun _=>true) w' k1 k2 ⟨HQ.out.1,hrl,hai,by omega,by omega,by omega,hC,fun i hi=>absurd hi (by omega),fun _ _ _=>rfl,HQ.out.2.1,HQ.out.2.1 r (zA5 hr),fun _=>hS1.out⟩
   rw [bY5] at this;unfold upT;rw [zJ2 hr];exact this
  rw [hrl] at hu hcl hsr CC;have HRL:=hQ9 (zA hr hrl);have hin:i<=n:=by omega
  have hin2:i<n:=by omega
  have hmix:prog.follows .mixedOrders=true:=by kernel_rfl
  have fin:∀ (a':Act) (W':World) (us2:List Value),zD7 .u64 4294967296 W' g 44 us2 (upT T1 i (pv ps i))->W.drew.grownBy W' (some g)->ownPostK (KpG g W0.heap.size) (UpI T0 g n C a S ps w) (fun _ _ _=>False) (pre ++ [(⟨(i,pv ps i),hip,rfl⟩:BkT ps)]) W .normal a' W':=fun a' W' us2 k1 k2=>by
   have G:W.grownBy W' (some g):=(zL (qW2 W (some g)) (Below.refl _ W).drew).trans k2;have hgW:=q4.1.1;have hgl2:=q4.lt;unfold Blk at hgW;obtain ⟨e1,e2,e3,e4⟩:=HQ.out;refine ⟨KeepsOthers.of_grownBy G (fun j o e hj=>by cases e;rw [hgW] at hj;cases hj;rfl),⟨G.size,fun k hk hl hkg=>G.block k hl (fun e=>by injection e with e;omega)⟩,?_⟩;refine ⟨us2,_,S1+S1+1,?_,?_,?_,k1,fun hB => ?_,(World.cell?_of_block (G.block w.heap.size (bQ0 _ _ q6) (fun e=>by injection e with e;omega))).trans q6,q7.trans G⟩
   ·unfold upT;rw [zJ2 hr];exact qG8 e1 hrl i (by omega)
   ·unfold upT;rw [zJ2 hr];exact qO0 e1 hai e2 (e2 r (zA5 hr)) i (by omega)
   ·rw [zA8];exact qO1 e3
   ·obtain ⟨b1,b2⟩:=zO5.init hB;have b3:i+pre.length+1=ps.length:=b2;have u1:=e4 b1;rw [show ps.length-pre.length=i+1 by omega] at u1;have u2:=u1.step hc.out.2.1 hip;rw [show ps.length-(pre ++ [(⟨(i,pv ps i),hip,rfl⟩:BkT ps)]).length=i by rw [zA8];simp only [bX3,List.length_nil];omega];exact u2
  have hcall:Calls prog 130 #[.slice (some ⟨g,0,none⟩) i n,.slice Ar C cr,.int .i64 (pv ps i:Int)] W.drew (qO9 g us1 (upT T1 i (pv ps i)) W.drew):=CC W.drew q4.drew hsr.drew;clear CC HQ q4 hsr q1 q2 q3 q5 hS1 hai hp hT0 hb hs hgr0 hc;obtain ⟨QQ,hQQ⟩:∃ QQ,QQ=ownPostK (KpG g W0.heap.size) (UpI T0 g n C a S ps w) (fun _ _ _=>False) (pre ++ [(⟨(i,pv ps i),hip,rfl⟩:BkT ps)]) W:=⟨_,rfl⟩;rw [<- hQQ] at fin;have HPAN:∀ c a a' w,QQ (.panic c) a w->QQ (.panic c) a' w:=by rw [hQQ];exact fun _ _ _ _ h=>h
  show Code.wpIn _ _ _ _ (ownPostK (KpG g W0.heap.size) (UpI T0 g n C a S ps w) (fun _ _ _=>False) (pre ++ [(⟨(i,pv ps i),hip,rfl⟩:BkT ps)]) W) _ _
  rw [<- hQQ];clear hQQ
  gi_wp2
  have HPN:∀ (o:Option Nat) (v:Value) c a w,Exit.inBlock 1 QQ (.panic c) (a.put o v) w->Exit.inBlock 1 QQ (.panic c) a w:=fun o v c a w h=>HPAN c _ a w h;refine jI8 l hmix (by kernel_rfl) ?_
  change wpAnyIn Fence.wide 1 prog .any _ _ 9 #[false,false,false,false,false,false,false,false,false] _ _
  refine wpAnyIn_take (i:=1) (v:=?_) rfl rfl (by kernel_rfl) (by kernel_rfl) (by kernel_rfl) (HPN _ _) ⟨Or.inl ⟨by rfl,?_⟩,fun _=>rfl⟩ ?_
  rotate_left
  ·intro w;go_simp
   try with_reducible rfl
  refine wpAnyIn_take (i:=4) (v:=?_) rfl rfl (by kernel_rfl) (by kernel_rfl) (by kernel_rfl) (HPN _ _) ⟨Or.inl ⟨by rfl,?_⟩,fun _=>rfl⟩ ?_
  rotate_left
  ·intro w;go_simp
   try with_reducible rfl
  refine wpAnyIn_take (i:=7) (v:=?_) rfl rfl (by kernel_rfl) (by kernel_rfl) (by kernel_rfl) (HPN _ _) ⟨Or.inl ⟨by rfl,?_⟩,fun _=>rfl⟩ ?_
  rotate_left
  ·intro w;go_simp
   try with_reducible rfl
  refine wpAnyIn_ready (rs:=[0,3]) (by kernel_rfl) (by simp) ?_;refine AllReadyIn.cons rfl (fun K hK => ?_) ?_
  ·go_simp;refine hK _ _ ?_;clear hK K;refine wpAnyIn_take (i:=2) (v:=?_) rfl rfl (by kernel_rfl) (by kernel_rfl) (by kernel_rfl) (HPN _ _) ⟨Or.inl ⟨by rfl,?_⟩,fun _=>rfl⟩ ?_
   rotate_left
   ·intro w;go_simp
    try with_reducible rfl
   refine wpAnyIn_ready (rs:=[3]) (by kernel_rfl) (by simp) ?_;refine AllReadyIn.cons rfl (fun K hK => ?_) ?_
   ·go_simp;refine hK _ _ ?_;clear hK K;refine wpAnyIn_take (i:=5) (v:=?_) rfl rfl (by kernel_rfl) (by kernel_rfl) (by kernel_rfl) (HPN _ _) ⟨Or.inl ⟨by rfl,?_⟩,fun _=>rfl⟩ ?_
    rotate_left
    ·intro w;go_simp
     try with_reducible rfl
    refine wpAnyIn_ready (rs:=[6]) (by kernel_rfl) (by simp) ?_;refine AllReadyIn.cons rfl (fun K hK => ?_) ?_
    ·go_simp;refine hK _ _ ?_;clear hK K;refine wpAnyIn_ready (rs:=[8]) (by kernel_rfl) (by simp) ?_;refine AllReadyIn.cons rfl (fun K hK => ?_) AllReadyIn.nil;go_simp;refine ⟨trivial,?_⟩;refine (callsIn_wide.2 hcall).mono ?_;rintro e w' ⟨rfl,us2,k1,k2,-⟩;refine hK _ _ ?_;refine wpAnyIn_done (by kernel_rfl) ?_ _;exact fin _ _ us2 k1 k2
    exact AllReadyIn.nil
   exact AllReadyIn.nil
  refine AllReadyIn.cons rfl (fun K hK => ?_) ?_
  ·go_simp;refine hK _ _ ?_;clear hK K;refine wpAnyIn_take (i:=5) (v:=?_) rfl rfl (by kernel_rfl) (by kernel_rfl) (by kernel_rfl) (HPN _ _) ⟨Or.inl ⟨by rfl,?_⟩,fun _=>rfl⟩ ?_
   rotate_left
   ·intro w;go_simp
    try with_reducible rfl
   refine wpAnyIn_ready (rs:=[0,6]) (by kernel_rfl) (by simp) ?_;refine AllReadyIn.cons rfl (fun K hK => ?_) ?_
   ·go_simp;refine hK _ _ ?_;clear hK K;refine wpAnyIn_take (i:=2) (v:=?_) rfl rfl (by kernel_rfl) (by kernel_rfl) (by kernel_rfl) (HPN _ _) ⟨Or.inl ⟨by rfl,?_⟩,fun _=>rfl⟩ ?_
    rotate_left
    ·intro w;go_simp
     try with_reducible rfl
    refine wpAnyIn_ready (rs:=[6]) (by kernel_rfl) (by simp) ?_;refine AllReadyIn.cons rfl (fun K hK => ?_) ?_
    ·go_simp;refine hK _ _ ?_;clear hK K;refine wpAnyIn_ready (rs:=[8]) (by kernel_rfl) (by simp) ?_;refine AllReadyIn.cons rfl (fun K hK => ?_) AllReadyIn.nil;go_simp;refine ⟨trivial,?_⟩;refine (callsIn_wide.2 hcall).mono ?_;rintro e w' ⟨rfl,us2,k1,k2,-⟩;refine hK _ _ ?_;refine wpAnyIn_done (by kernel_rfl) ?_ _;exact fin _ _ us2 k1 k2
    exact AllReadyIn.nil
   refine AllReadyIn.cons rfl (fun K hK => ?_) ?_
   ·go_simp;refine hK _ _ ?_;clear hK K;refine wpAnyIn_ready (rs:=[0]) (by kernel_rfl) (by simp) ?_;refine AllReadyIn.cons rfl (fun K hK => ?_) ?_
    ·go_simp;refine hK _ _ ?_;clear hK K;refine wpAnyIn_take (i:=2) (v:=?_) rfl rfl (by kernel_rfl) (by kernel_rfl) (by kernel_rfl) (HPN _ _) ⟨Or.inl ⟨by rfl,?_⟩,fun _=>rfl⟩ ?_
     rotate_left
     ·intro w;go_simp
      try with_reducible rfl
     refine wpAnyIn_ready (rs:=[8]) (by kernel_rfl) (by simp) ?_;refine AllReadyIn.cons rfl (fun K hK => ?_) AllReadyIn.nil;go_simp;refine ⟨trivial,?_⟩;refine (callsIn_wide.2 hcall).mono ?_;rintro e w' ⟨rfl,us2,k1,k2,-⟩;refine hK _ _ ?_;refine wpAnyIn_done (by kernel_rfl) ?_ _;exact fin _ _ us2 k1 k2
    exact AllReadyIn.nil
   exact AllReadyIn.nil
  exact AllReadyIn.nil
 case done =>
  rintro D xs W hD ⟨hxl,hB⟩ ⟨us1,T1,S1,q1,q2,q3,q4,q5,q6,q7⟩ hK;have hup:=q5 hB;rw [show ps.length-xs.length=0 by omega] at hup;have hDl:∃ o:Obj,W.heap[D]?=some o/\o.isCells=false:=⟨_,hK,rfl⟩;refine ⟨by simp,.inl ⟨_,_,rfl,run_takeDeferred hK,?_⟩⟩;refine ⟨_,results_none rfl _ _ _,rfl,us1,T1,hup,zD7.ownK q4 (grownBy_putObj' W D (.deferred none)) (fun x e=>by cases e;exact hDl),?_⟩;exact zW9 q7 (grownBy_putObj' W D (.deferred none)) (by omega)
 case stop =>
  rintro D c pre W _ _ h _;exact h.elim
theorem shp_of {T:List (List Rat)} (h:zF5 T):shp T T.length (zC T):=⟨rfl,h.2.2⟩
theorem pI_at {ps:List Nat} {i:Nat} (h:i<ps.length):(pI ps)[i]?=some (.int .i64 (pv ps i:Int)):=by
 unfold pI vi pv;rw [List.map_map,bQ8,zA3 h];simp [zA6,h]
theorem zC8.pvs {w:World} {base g m c:Nat} {TS:TypeId} {us:List Value} {A:Option Addr} {ps:List Nat} (h:zC8 isI w base 3 (.slice A m c) (pI ps)) (hT:zG1 w g TS us) (hne:3≠TS):∀ i,i<ps.length -> ∃ ad,A=some ad/\ad.block≠g/\w.cell? (ad.add i)=some (.int .i64 (pv ps i:Int)):=fun i hi=>by
 have hn:=h.notTab hT hne;rcases h.1.2 with ⟨e,h0⟩|⟨g',cap,cur,e,_⟩
 ·rw [zN5] at h0;omega
 ·have e2:=e;injection e2 with e1 e2 e3;subst e1;have hc:=h.1;rw [e] at hc;refine ⟨_,rfl,fun e4=>hn (by rw [<- e4];rfl),?_⟩;rw [zR9];exact hc.cellAt (pI_at hi)
theorem zC8.weak {S:Value->Prop} {w:World} {base base':Nat} {e:TypeId} {v:Value} {vs:List Value} (h:zC8 S w base e v vs) (hb:base'<=base):zC8 S w base' e v vs:=⟨zD.weak h.1 hb,h.2⟩
theorem qI2 {S n m:Nat} (h:m<=n):(S+1)*2^m<=(S+1)*2^n:=bY _ (bX9 (by omega) h)
structure RedE (T0:List (List Rat)) (n C S:Nat) (w:World) (g:Nat) (v:Value) (w':World) (T:List (List Rat)) (us:List Value) (ps:List Nat):Prop where
 sh:shp T n C
 ech:Ech n C (zB6 T) ps.length (pv ps)
 red:Red n (zB6 T) ps.length (pv ps) 0
 ker:zE4 n C (zB6 T0) (zB6 T)
 len:∃ S',zG0 T S'/\S'+1<=(S+1)*2^(min ps.length (n-1))*2^(ps.length-1)
 tab:zD7 .u64 4294967296 w' g 44 us T
 piv:zC8 isI w' w.heap.size 3 v (pI ps)
 bel:Below w.heap.size w w'
 lo:w.heap.size<=g
def zX1 (T:List (List Rat)) (S:Nat):Prop:=T.length<=5/\zC T<=200/\zG0 T S/\S<=100000/\(S+1)*2^(T.length-1)<=400/\(S+1)*2^(T.length-1)*2^(T.length-1)<=2450
theorem qW5 (a0:Value) (T:List (List Rat)) (S:Nat) (w:World) (h0:SlT .u64 4294967296 w a0 T) (hc:Hid (zX1 T S)) :
  Calls prog 47 #[a0] w (fun e w'=>(zF5 T /\ ∃ g v T' us ps,e=.returned (.tuple #[.slice (some ⟨g,0,none⟩) T.length T.length,v,.int .i64 0])/\RedE T T.length (zC T) S w g v w' T' us ps)\/(¬ zF5 T/\e=.returned (.tuple #[.slice none 0 0,.slice none 0 0,.int .i64 8])/\Below w.heap.size w w')):=by
 have st0:=h0;obtain ⟨A0,c0,rfl,hc0,hm0⟩:=h0.shape;obtain ⟨n,hn⟩:∃ n,n=T.length:=⟨_,rfl⟩;obtain ⟨C,hC⟩:∃ C,C=zC T:=⟨_,rfl⟩;have HST:=hQ9 st0;clear h0 st0 hc0 hm0
 go_enter func47,ntmps47;go_wp2_with fail
 refine (jH2 _ T _ HST.out ⟨hc.out.2.1,by have:=hc.out.1;omega,hc.out.2.2.1.len.mono hc.out.2.2.2.1⟩).mono ?_;rintro e w2 (⟨hm,g,us,pss,rfl,hT,hV,hU,hg,b2⟩|⟨hm,V,rfl,hS,b2⟩)
 ·have TS:=TabO.tabS hT hU;rw [hV] at TS;rw [<- hn];rw [<- hn] at hU;have HM:=hQ9 hm;have HH:=hQ9 (zA hn hC);have sl:=TS.slT hn.symm (by have:=hc.out.1;omega);clear hT hV hn hC hm
  go_wp2_with fail
  refine (zS9 _ T _ sl).mono ?_;rintro e w3 ⟨rfl,b3⟩;rw [<- HH.out.1,<- HH.out.2];have TS3:=TS.bQ b3;have b23:=b2.trans (b3.mono b2.size);clear sl TS b3 b2;go_wp2_with fail
  refine (jH6 g n C C S us T _ TS3 ⟨by rw [HH.out.1,HH.out.2];exact shp_of HM.out,zB1 _,by rw [HH.out.1];exact hc.out.1,by rw [HH.out.2];have:=hc.out.2.1;omega,hc.out.2.2.1,by rw [HH.out.1];exact hc.out.2.2.2.2.1⟩).mono ?_;rintro e w4 ⟨v,v5,T4,us4,ps,d,rfl,hD⟩;obtain ⟨dwn,tab,piv,num,len,own⟩:=hD;obtain ⟨u,t,rfl,su,st⟩:=num;obtain ⟨Au,cu,rfl,_⟩:=id su;obtain ⟨At,ct,rfl,_⟩:=id st;obtain ⟨A6,c6,e6⟩:=zD.slice piv.1;rw [zN5] at e6;subst e6;have hpn:ps.length<=n:=dwn.ech.le;have b24:=b23.grown own b23.size (fun k e=>by cases e;exact hg);obtain ⟨S1,r1,hS1⟩:=dwn.len;have hp1:=qI2 (S:=S) (show min ps.length (n-1)<=n-1 by omega);have hp2:=qI2 (S:=S1) (show ps.length-1<=n-1 by omega);have hm2:(S1+1)*2^(n-1)<=(S+1)*2^(n-1)*2^(n-1):=Nat.mul_le_mul_right _ (zB2 hS1 hp1);have hq1:=hc.out.2.2.2.2.2;rw [<- HH.out.1] at hq1;have HB:=hQ9 (zA hp1 (zA hp2 (zA hm2 (zA hq1 hS1))));clear hp1 hp2 hm2 hq1 hS1;have ba:=zC6 (w:=w4) (zB1 _) (.cells #[.bool (ngB d.num),.slice Au (digs 4294967296 d.num.natAbs).length cu,.slice At (digs 4294967296 d.den).length ct] 83);have tab4:=tab.bQ ba;have piv4:=(piv.bQ ba).weak b23.size;have b25:=b24.trans (ba.mono b24.size);have HDW:=hQ9 dwn;have HR1:=hQ9 r1;clear tab piv ba dwn r1 su st own TS3 b23 b24;go_wp2_with fail
  have cu:=gup_any g n C C S1 c6 A6 us4 ps T T4 _ tab4 (piv4.pvs tab4.1 (by decide)) ⟨HDW.out.sh,zB1 _,by rw [HH.out.1];exact hc.out.1,by rw [HH.out.2];have:=hc.out.2.1;omega,HR1.out,by have:=HB.out;omega,HDW.out.ech,HDW.out.ker⟩;refine cu.mono ?_;rintro e w6 ⟨rfl,us6,T6,hU6,tab6,own6⟩;have piv6:=piv4.grown own6 (fun x e1 e2=>piv4.notTab tab4.1 (by decide) (by rw [e1,e2]));have b26:=b25.grown own6 b25.size (fun k e=>by cases e;exact hg);clear cu piv4 tab4;go_wp2
  go_ret3
  refine .inl ⟨HM.out,g,.slice A6 ps.length c6,T6,us6,ps,?_,?_⟩
  ·rw [<- HH.out.1]
   rfl
  ·rw [<- HH.out.1,<- HH.out.2];obtain ⟨S2,r2,hS2⟩:=hU6.len;refine ⟨hU6.sh,hU6.ech,hU6.red,hU6.ker,⟨S2,r2,zB2 hS2 ?_⟩,tab6,piv6,b26,hg⟩;exact bY6 HB.out.2.2.2.2 (bX9 (by omega) (by omega))
 ·rw [if_neg (by decide)] at hS;obtain ⟨AV,cV,rfl,-,-⟩:=hS.shape;have HN:=hQ9 hm;clear hm;go_wp2
  go_ret3
  exact .inr ⟨HN.out,rfl,b2⟩
def PvI (w:World) (v:Value) (ps:List Nat):Prop:=∃ A c,v=.slice A ps.length c /\ ∀ i,i<ps.length -> ∃ ad,A=some ad/\w.cell? (ad.add i)=some (.int .i64 (pv ps i:Int))
theorem PvI.bQ {w w':World} {v:Value} {ps:List Nat} (h:PvI w v ps) (hb:Below w.heap.size w w'):PvI w' v ps:=by
 obtain ⟨A,c,e,h1⟩:=h;refine ⟨A,c,e,fun i hi => ?_⟩;obtain ⟨ad,e2,h2⟩:=h1 i hi;exact ⟨ad,e2,(hb.cell (bQ0 _ _ h2)).trans h2⟩
theorem zC8.pvI {w:World} {base:Nat} {v:Value} {ps:List Nat} (h:zC8 isI w base 3 v (pI ps)):PvI w v ps:=by
 obtain ⟨A,c,e⟩:=zD.slice h.1;rw [zN5] at e;subst e;refine ⟨A,c,rfl,fun i hi => ?_⟩;rcases h.1.2 with ⟨e,h0⟩|⟨g',cap,cur,e,_⟩
 ·rw [zN5] at h0;omega
 ·have e2:=e;injection e2 with e1 e2 e3;subst e1;have hc:=h.1;rw [e] at hc;refine ⟨_,rfl,?_⟩;rw [zR9];exact hc.cellAt (pI_at hi)
theorem jJ0 (a0 a1:Value) (ps qs:List Nat) (w:World) (h0:PvI w a0 ps) (h1:PvI w a1 qs) (hm:ps.length<=1000) :
    Calls prog 18 #[a0,a1] w (zD3 (.bool (decide (ps=qs))) w):=by
  have st0:=h0;have st1:=h1;obtain ⟨A0,c0,rfl,_⟩:=h0;obtain ⟨A1,c1,rfl,_⟩:=h1
  go_enter func18,ntmps18
  by_cases hl:ps.length=qs.length
  · rw [<- hl] at st1 |-;have HLQ:=hQ9 hl;clear hl;go_wp2
    go_loopw [5] (fun v5 wr => ∃ k:Nat,k<=ps.length/\Hid (∀ i,i<k->pv ps i=pv qs i)/\Below w.heap.size w wr/\v5=.int .i64 (k:Int)) (fun v5 _=>ps.length-(intOf v5).toNat)
    case atStart=>exact ⟨0,by omega,(by show ∀ i,_;intro i hi;omega),Below.refl _ _,rfl⟩
    case round =>
      obtain ⟨k,hk,HZ,bb,rfl⟩:=hrel;by_cases hlt:k<ps.length
      · obtain ⟨A,c,e,hA⟩:=st0.bQ bb;injection e with e1 _ e3;subst e1;subst e3;obtain ⟨A',c',e,hA'⟩:=st1.bQ bb;injection e with e1 _ e3;subst e1;subst e3;obtain ⟨ad,rfl,k0⟩:=hA k hlt;obtain ⟨ad',rfl,k1⟩:=hA' k (by have:=HLQ.out;omega);have bd:=bb.drew;obtain ⟨x,hx⟩:∃ x,x=pv ps k:=⟨_,rfl⟩;obtain ⟨y,hy⟩:∃ y,y=pv qs k:=⟨_,rfl⟩;rw [<- hx] at k0;rw [<- hy] at k1;have HX:=hQ9 (zA hx hy);clear hx hy hA hA' st0 st1;by_cases hxy:x=y
        · subst hxy;go_upto_region 6 with (fail);go_region
          all_goals
            have HZ2:Hid (∀ i,i<k+1->pv ps i=pv qs i):=by
              show ∀ i,_
              intro i hi;by_cases e:i=k
              · subst e;rw [<- HX.out.1,<- HX.out.2]
              · exact HZ.out i (by omega)
            go_wp2;go_roundw;case rel=>exact ⟨k+1,by omega,HZ2,bd,by go_num⟩
            case measure=>simp [intOf];omega
        · go_upto_region 6 with (fail)
          go_region
          all_goals
            have HT:Hid (decide (ps=qs)=false):=decide_eq_false (fun e=>by have h:=HX.out;rw [<- e] at h;exact hxy (h.1.trans h.2.symm));go_wp2;go_ret;exact ⟨by rw [HT.out];rfl,bd⟩
      · obtain rfl:k=ps.length:=by omega
        have HT:Hid (decide (ps=qs)=true):=decide_eq_true (yG4 HLQ.out fun i hi=>HZ.out i hi);go_wp2;go_ret;exact ⟨by rw [HT.out];rfl,bb⟩
  · have hl2:=hl;have HT:Hid (decide (ps=qs)=false):=decide_eq_false (fun e=>hl (by rw [e]));go_wp2;go_ret;exact ⟨by rw [HT.out];rfl,Below.refl _ _⟩
theorem yK5 {r v:List Rat} (hl:r.length=v.length):∀ k,k<=r.length->zI5 (r.take k) (v.take k)=zC0 k (fun l=>r.getD l 0*v.getD l 0)
  | 0,_=>by rw [bX6];exact yZ _
  | k + 1, hk => by
    obtain ⟨x,hx⟩:∃ x,r[k]?=some x:=⟨_,zA3 (by omega)⟩;obtain ⟨y,hy⟩:∃ y,v[k]?=some y:=⟨_,zA3 (by omega)⟩;rw [jG5 hx hy,yK5 hl k (by omega)];show _=zC0 k _+r.getD k 0*v.getD k 0
    rw [zA6,zA6,hx,hy]
    rfl
theorem yK6 {q:List (List Rat)} {l j:Nat} : (zJ9 q j).getD l 0=zB6 q l j:=by
 unfold zJ9 zB6;rw [zA6,bQ8,zA6 (l:=q)]
 cases q[l]? with
 | none=>simp
 | some r=>rfl
theorem qI3 {T:List (List Rat)} {n C:Nat} (h:shp T n C) (h0:n=0->C=0):zC T=C:=by
 cases T with
 | nil=>exact (h0 h.1.symm).symm
 | cons r T=>exact h.2 r List.mem_cons_self
theorem jJ1 (a0 a1:Value) (ps:List Nat) (w:World) (h0:PvI w a0 ps) (h1:PvI w a1 ps) (hm:ps.length<=1000):Calls prog 18 #[a0,a1] w (zD3 (.bool true) w):=by
 have:=jJ0 a0 a1 ps ps w h0 h1 hm
 rwa [decide_eq_true (rfl:ps=ps)] at this
def hasP (ps:List Nat) (j k:Nat):Prop:=∃ i,i<k/\pv ps i=j
theorem zZ3 {ps:List Nat} {j:Nat} : hasP ps j ps.length ↔ j∈ps:=by
 constructor
 ·rintro ⟨i,hi,e⟩;refine zA5 (i:=i) ?_;rw [zA3 hi];unfold pv at e;rw [zA6,zA3 hi] at e;exact congrArg some e
 ·intro h;obtain ⟨i,hi⟩:=List.mem_iff_getElem?.1 h;refine ⟨i,(zA4.1 hi).1,?_⟩;unfold pv;rw [zA6,hi]
  rfl
def RetPos (ps:List Nat) (j:Nat) (w:World) (e:Ending) (w':World):Prop:=∃ z:Int,e=.returned (.int .i64 z) /\ -1<=z/\z<=1000/\(0<=z ↔ j∈ps)/\Below w.heap.size w w'
theorem jJ2 (a0:Value) (ps:List Nat) (j:Nat) (w:World) (h0:PvI w a0 ps) (hm:ps.length<=1000) :
  Calls prog 132 #[a0,.int .i64 (j:Int)] w (RetPos ps j w):=by
 have st0:=h0;obtain ⟨A0,c0,rfl,_⟩:=h0
 go_enter func132,ntmps132
 go_wp2
 go_loopw [8] (fun v8 wr => ∃ k:Nat,k<=ps.length/\Hid (¬ hasP ps j k)/\Below w.heap.size w wr/\v8=.int .i64 (k:Int)) (fun v8 _=>ps.length-(intOf v8).toNat)
 case atStart=>exact ⟨0,by omega,(by show ¬ _;rintro ⟨i,hi,_⟩;omega),Below.refl _ _,rfl⟩
 case round =>
  obtain ⟨k,hk,HZ,bb,rfl⟩:=hrel;by_cases hlt:k<ps.length
  ·obtain ⟨A,c,e,hA⟩:=st0.bQ bb;injection e with e1 _ e3;subst e1;subst e3;obtain ⟨ad,rfl,k0⟩:=hA k hlt;obtain ⟨x,hx⟩:∃ x,x=pv ps k:=⟨_,rfl⟩;rw [<- hx] at k0;have HX:=hQ9 hx;clear hx hA st0;by_cases hxy:j=x
   ·subst hxy;have HT:Hid (j∈ps):=zZ3.1 ⟨k,hlt,HX.out.symm⟩;go_wp2;go_ret;exact ⟨(k:Int),rfl,by omega,by omega,⟨fun _=>HT.out,fun _=>by omega⟩,bb⟩
   ·have hxb:(((j:Nat):Int) == ((x:Nat):Int))=false:=by rw [beq_eq_false_iff_ne];omega
    have HZ2:Hid (¬ hasP ps j (k+1)):=by
     show ¬ _
     rintro ⟨i,hi,e⟩;by_cases e2:i=k
     ·subst e2;exact hxy (HX.out.trans e).symm
     ·exact HZ.out ⟨i,by omega,e⟩
    go_wp2;go_roundw;case rel=>exact ⟨k+1,by omega,HZ2,bb,by go_num⟩
    case measure=>simp [intOf];omega
  ·obtain rfl:k=ps.length:=by omega
   have HT:Hid (¬ j∈ps):=fun h=>HZ.out (zZ3.2 h);go_wp2;go_ret;exact ⟨-1,rfl,by omega,by omega,⟨fun h=>by omega,fun h=>absurd h HT.out⟩,bb⟩
theorem qW6 (a0:Value) (ps:List Nat) (j:Nat) (w:World) (h0:PvI w a0 ps) (hm:ps.length<=1000) :
  Calls prog 92 #[a0,.int .i64 (j:Int)] w (zD3 (.bool (decide (j∈ps))) w):=by
 have st0:=h0;obtain ⟨A0,c0,rfl,_⟩:=h0
 go_enter func92,ntmps92;go_wp2_with fail
 refine (jJ2 _ ps j _ st0 hm).mono ?_;rintro e w2 ⟨z,rfl,h1,h2,h3,b2⟩;have H3:=hQ9 h3;clear h3;by_cases hz:(0:Int)<=z
 ·have HT:Hid (decide (j∈ps)=true):=decide_eq_true (H3.out.1 hz);go_wp2;go_ret;exact ⟨by rw [HT.out];rfl,b2⟩
 ·have HT:Hid (decide (j∈ps)=false):=decide_eq_false (fun h=>hz (H3.out.2 h));have hzd:decide ((0:Int)<=z)=false:=decide_eq_false hz;go_wp2;go_ret;exact ⟨by rw [HT.out];rfl,b2⟩
theorem qI4 (n:Nat) (f:Nat->Rat):∀ m,zC0 (n+m) f=zC0 n f+zC0 m (fun j=>f (n+j))
  | 0=>(Rat.add_zero _).symm
  | m + 1 => by
    show zC0 (n+m) f+f (n+m)=zC0 n f+(zC0 m (fun j=>f (n+j))+f (n+m))
    rw [qI4 n f m,Rat.add_assoc]
def zI7 (n:Nat) (A X:Nat->Nat->Rat):Nat->Nat->Rat:=fun i j=>if j<n then A i j else X i (j-n)
theorem yK7 (n m:Nat) (A X:Nat->Nat->Rat) (x y:Nat->Rat) (i:Nat):zC0 (n+m) (fun j=>zI7 n A X i j*(if j<n then x j else y (j-n)))=zC0 n (fun j=>A i j*x j)+zC0 m (fun j=>X i j*y j):=by
 rw [qI4]
 congr 1
 ·exact zF2 fun j hj=>by unfold zI7;rw [if_pos hj,if_pos hj]
 ·exact zF2 fun j hj=>by unfold zI7;rw [if_neg (by omega),if_neg (by omega),Nat.add_sub_cancel_left]
theorem sum_idF {n i:Nat} (hi:i<n) (x:Nat->Rat):zC0 n (fun j=>idF i j*x j)=x i:=by
 rw [zK7 hi (fun j _ hne=>by unfold idF;rw [if_neg (fun e=>hne e.symm),Rat.zero_mul])];unfold idF;rw [if_pos rfl,Rat.one_mul]
theorem qP4 (n:Nat) (f g:Nat->Rat):zC0 n (fun j=>f j * -(g j)) = -(zC0 n (fun j=>f j*g j)):=by
 have h:=zJ4 n (-1) (fun j=>f j*g j);rw [show (-1:Rat)*zC0 n (fun j=>f j*g j) = -(zC0 n (fun j=>f j*g j)) by grind] at h;rw [<- h];exact zF2 fun j _=>by grind
end rat
namespace rat
open Go.RowKit num mem nat txt str flow whl
def yK8 (L:List Rat) (w:World) (e:Ending) (w':World):Prop:=∃ V,e=.returned V/\IsN .i64 10000 w' w.heap.size V L/\Below w.heap.size w w'
theorem jJ3 (a0 a1:Value) (p:List Rat) (K:Rat) (w:World) (h0:SlF .i64 10000 w a0 p) (h1:IsP w a1 K) (hl:(zF1 p K).length<=p.length/\p.length<=1000000/\(∀ x∈p,zC2 x 10000)/\zC2 K 10000) :
  Calls prog 84 #[a0,a1] w (yK8 (zF1 p K) w):=by
 obtain ⟨u1,t1,rfl,s1,r1⟩:=h1;obtain ⟨A1,c1,rfl,_⟩:=id s1;obtain ⟨D1,e1,rfl,_⟩:=id r1;have sl0:=h0;obtain ⟨A0,c0,rfl,hc0,hm0⟩:=h0.shape;unfold maxLen at hm0;have HLE:=hQ9 hl;clear hl
 go_enter func84,ntmps84
 go_upto_region 1 with (fail)
 obtain ⟨wx,hwx,bb,B1,hsz⟩:=zK4 w 65 #[.bool (ngB (K).num),.slice A1 (digs 10000 (K).num.natAbs).length c1,.slice D1 (digs 10000 (K).den).length e1];rw [hwx];clear hwx;have k1s:=s1.bQ bb;have k1d:=r1.bQ bb;have k1z:IsR wx (.agg #[.bool (ngB (K).num),.slice A1 (digs 10000 (K).num.natAbs).length c1]) (K).num:=⟨_,rfl,k1s⟩;have k1:IsP wx (.agg #[.bool (ngB (K).num),.slice A1 (digs 10000 (K).num.natAbs).length c1,.slice D1 (digs 10000 (K).den).length e1]) (K):=⟨_,_,rfl,k1s,k1d⟩;have hsz0:=bb.size;go_wp2
 go_loopw [5,6] (fun v5 v6 wr => ∃ (k:Nat) (ps:List Elt),k<=p.length/\Hid (ps.map (·.1)=(zF1 p K).take k)/\zD0 65 wr wx.heap.size v5 ps/\zG3 .i64 10000 wr v5 ps/\Hid (zI6 wx.heap.size ps)/\Below wx.heap.size wx wr/\v6=.int .i64 (k:Int)) (fun _ v6 _=>p.length-(intOf v6).toNat)
 case atStart=>exact ⟨0,[],by omega,rfl,qF7 _ _ _ (zB1 _),zG3.nil _ _ _ _,zI6.nil _,zC6 (zB1 _) _,rfl⟩
 case round =>
  obtain ⟨k,ps,hk,HP,hR,hF,HNL,hby,rfl⟩:=hrel;have bw:=bb.trans (hby.mono bb.size);clear bb;have bb:=bw;clear bw;replace B1:=B1.bQ hby;replace k1s:=k1s.bQ hby;replace k1d:=k1d.bQ hby;replace k1z:=k1z.bQ hby;replace k1:=k1.bQ hby;have hszr:=bb.size;by_cases hlt:k<p.length
  ·obtain ⟨x,hq0_⟩:∃ x,p[k]?=some x:=⟨_,zA3 hlt⟩;obtain ⟨g0_,o0_,ue0,te0,hA0_,_,e00,e01,e02,es0,ed0⟩:=(sl0.bQ bb).at_ hq0_;subst hA0_;have HQ0:=hQ9 hq0_;clear hq0_;obtain ⟨Ae0,ce0,rfl,_⟩:=id es0;obtain ⟨De0,ee0,rfl,_⟩:=id ed0;have ke0:IsP wr (.agg #[.bool (ngB x.num),.slice Ae0 (digs 10000 x.num.natAbs).length ce0,.slice De0 (digs 10000 x.den).length ee0]) x:=⟨_,_,rfl,es0,ed0⟩;have lx:zC2 x 10000:=HLE.out.2.2.1 x (zA5 HQ0.out);have lK:zC2 K 10000:=HLE.out.2.2.2;have nR:=hR.under;obtain ⟨AR,cR,hAR,_⟩:=(hR.sl hF).shape;subst hAR;have hszy:=hby.size
   have HL8:Hid (ps.length<=1000000000):=by
    have h1:=congrArg List.length HP.out;rw [zA9,bQ7] at h1;show _<=_
    have:=HLE.out.1
    have:=HLE.out.2.1
    omega
   have sB:=bb.size;go_upto_region 5 with (fail);refine flow 8 [Pd.eq (.slice AR (ps.map (·.1)).length cR),Pd.eq (.slice (some ⟨g0_,o0_,none⟩) p.length c0),Pd.eq (.int .i64 (k:Int)),Pd.eq (.pointer (some ⟨g0_,o0_+k*3,none⟩)),Pd.eq (.agg #[.bool (ngB x.num),.slice Ae0 (digs 10000 x.num.natAbs).length ce0,.slice De0 (digs 10000 x.den).length ee0]),Pd.eq (.agg #[.bool (ngB (K).num),.slice A1 (digs 10000 (K).num.natAbs).length c1,.slice D1 (digs 10000 (K).den).length e1]),ppf ((x*K)) wr.heap.size,pone (ppf (x*K) wr.heap.size)] (by kernel_rfl) (by kernel_rfl) ?ob1 ?done1
   case ob1 =>
    refine zA (zB8 rfl (zB3 rfl) (zB5 rfl rfl) (fun _ _ h=>h)) ?_;refine zA (zB8 rfl (zB3 rfl) (zB5 rfl rfl) (fun _ _ h=>h)) ?_;refine zA (zB8 rfl (zB3 rfl) (zB5 rfl rfl) (fun _ _ h=>h)) ?_;refine zA (zI rfl (zB3 rfl) (zB4 (j:=1) (by kernel_rfl) rfl rfl) (zB4 (j:=2) (by kernel_rfl) rfl rfl) (fun _ _ _ hx hy=>⟨_,by rw [hx,hy];exact zG6 underlying45 (by kernel_rfl) hlt _,rfl⟩)) ?_;refine zA (zB7 rfl (zB3 rfl) (zB4 (j:=3) (by kernel_rfl) rfl rfl) (fun w2 hb=>zM1 underlying65 rfl (by kernel_rfl) ((hb.cell (bQ0 wr _ e00)).trans e00) ((hb.cell (bQ0 wr _ e01)).trans e01) ((hb.cell (bQ0 wr _ e02)).trans e02)) (fun _ _=>rfl)) ?_;refine zA (zB7 rfl (zB3 rfl) (zB5 rfl rfl) (fun w2 hb=>zF0 underlying65 rfl (by kernel_rfl) (B1.drew.bQ hb)) (fun _ _=>rfl)) ?_;refine zA (zC7 rfl func62 (by kernel_rfl) (zB3 rfl) (zB4 (j:=4) (by kernel_rfl) rfl rfl) (zB4 (j:=5) (by kernel_rfl) rfl rfl) (fun w2 u0 u1 hb h0 h1=>by obtain rfl:=h0;obtain rfl:=h1;exact (yE5 _ x _ K _ (ke0.drew.bQ hb) (k1.drew.bQ hb) lx lK).mono fun e w3 h=>zN.pdf h hb.size)) ?_;refine zA (qV (φ:=ppf (x*K) wr.heap.size) rfl rfl (zB4 (j:=6) (by kernel_rfl) rfl rfl) underlying45 zY7 (fun w v h=>⟨h,by obtain ⟨⟨u,t,rfl,hu,ht⟩,_⟩:=h;obtain ⟨_,_,rfl,_⟩:=id hu;obtain ⟨_,_,rfl,_⟩:=id ht;exact ⟨_,_,_,rfl,rfl,rfl,rfl⟩⟩) (fun _ _ h=>h)) ?_
    trivial
   case done1 =>
    refine fun w2 hb2 v0 h0 v1 h1 v2 h2 v3 h3 v4 h4 v5 h5 v6 h6 v7 h7 b hbf => ?_;obtain rfl:=h0;obtain rfl:=h1;obtain rfl:=h2;obtain rfl:=h3;obtain rfl:=h4;obtain rfl:=h5;obtain ⟨q6,f6⟩:=h6;obtain ⟨g7_,x7,y7,z7,rfl,c70,c71,c72,K7⟩:=h7;simp only [Act.put,zA0,zA2,zA1] at hbf;subst hbf;replace B1:=B1.bQ hb2;replace k1s:=k1s.bQ hb2;replace k1d:=k1d.bQ hb2;replace k1z:=k1z.bQ hb2;replace k1:=k1.bQ hb2;replace hR:=hR.bQ hb2;replace hF:=hF.bQ hb2;replace bb:=bb.trans (hb2.mono bb.size);have hsz2:=bb.size;replace hby:=hby.trans (hb2.mono hby.size);have s_6:=sB;have hszB:=hby.size;obtain ⟨⟨uE,tE,eE,sE,dE⟩,fE⟩:=K7;obtain ⟨rfl,rfl,rfl⟩:x7=.bool (ngB (x*K).num)/\y7=uE/\z7=tE:=by injection eE with eE;simpa using eE
    clear eE;obtain ⟨AE,cE,rfl,_⟩:=id sE;obtain ⟨DE,rE,rfl,_⟩:=id dE;refine yG6 (i:=8) (.tmp 14) (.tmp 21) (by kernel_rfl) rfl rfl rfl underlying45 zY7 (p:=(x*K,.slice AE (digs 10000 (x*K).num.natAbs).length cE,.slice DE (digs 10000 (x*K).den).length rE)) (ps:=ps) rfl hR rfl c70 c71 c72 rfl rfl HL8.out hszB fun v8 w8 b8 row8 bb8 HK8 hb8 => ?_;simp only [Act.put,zA0,zA2,zA1] at hb8;subst hb8;have EC:IsE .i64 10000 w2 ((x*K,.slice AE (digs 10000 (x*K).num.natAbs).length cE,.slice DE (digs 10000 (x*K).den).length rE):Elt):=⟨sE,dE⟩;have HN8:Hid (zI6 wx.heap.size (ps ++ [((x*K,.slice AE (digs 10000 (x*K).num.natAbs).length cE,.slice DE (digs 10000 (x*K).den).length rE):Elt)])):=HNL.out.snoc (p:=((x*K,.slice AE (digs 10000 (x*K).num.natAbs).length cE,.slice DE (digs 10000 (x*K).den).length rE):Elt)) ((fE _ _ _ rfl).1.mono hszy) ((fE _ _ _ rfl).2.mono hszy);have F8:=hF.snoc HK8.out.1 EC ((fE _ _ _ rfl).1.far nR) ((fE _ _ _ rfl).2.far nR);clear HK8 EC fE;refine qE5 (i:=9) (v8) (by kernel_rfl) rfl rfl rfl rfl rfl fun b hbf => ?_;simp only [Act.put,zA0,zA2,zA1] at hbf;subst hbf;refine zG (by kernel_rfl) ?_
    have HP8:Hid ((ps ++ [((x*K,.slice AE (digs 10000 (x*K).num.natAbs).length cE,.slice DE (digs 10000 (x*K).den).length rE):Elt)]).map (·.1)=(zF1 p K).take (k+1)):=by
     show _=_
     rw [bX5,HP.out,zQ7 (show (zF1 p K)[k]?=some (x*K) from by rw [zF1,bQ8,HQ0.out];rfl)]
     rfl
    have b8:=hby.trans bb8;clear hR hF HP HNL;go_wp2;go_roundw;case rel=>exact ⟨k+1,_,by omega,HP8,row8,F8,HN8,b8,by go_num⟩
    case measure=>simp [intOf];omega
  ·have HPE:Hid (IsN .i64 10000 wr w.heap.size u5 (zF1 p K)):=by
    have h:=HP.out;rw [zA7 (by have:=HLE.out.1;omega)] at h;exact ⟨ps,h,hR.isVF,fun p hp=>⟨(hF p hp).1,(HNL.out p hp).1.mono hsz0,(HNL.out p hp).2.mono hsz0⟩,fun g hg=>⟨zB2 hsz0 (hR.base_le g hg),hR.under g hg⟩⟩
   clear hR hF HP HNL;go_wp2;go_ret;exact ⟨_,rfl,HPE.out,bb⟩
theorem jJ4 (a0 a1 a2:Value) (p:List Rat) (K:Rat) (q:List Rat) (w:World) (h0:SlF .i64 10000 w a0 p) (h1:IsP w a1 K) (h2:SlF .i64 10000 w a2 q) (he:p.length=q.length) (hl:(zG2 p K q).length<=p.length/\p.length<=1000000/\(∀ x∈p,zC2 x 2000)/\(∀ x∈q,zC2 x 2000)/\zC2 K 2000) :
  Calls prog 86 #[a0,a1,a2] w (yK8 (zG2 p K q) w):=by
 obtain ⟨u1,t1,rfl,s1,r1⟩:=h1;obtain ⟨A1,c1,rfl,_⟩:=id s1;obtain ⟨D1,e1,rfl,_⟩:=id r1;have sl0:=h0;obtain ⟨A0,c0,rfl,hc0,hm0⟩:=h0.shape;unfold maxLen at hm0;have sl2:=h2;obtain ⟨A2,c2,rfl,hc2,hm2⟩:=h2.shape;unfold maxLen at hm2;have HLE:=hQ9 hl;clear hl;have HE:=hQ9 he;clear he
 go_enter func86,ntmps86
 go_upto_region 1 with (fail)
 obtain ⟨wx,hwx,bb,B1,hsz⟩:=zK4 w 65 #[.bool (ngB (K).num),.slice A1 (digs 10000 (K).num.natAbs).length c1,.slice D1 (digs 10000 (K).den).length e1];rw [hwx];clear hwx;have k1s:=s1.bQ bb;have k1d:=r1.bQ bb;have k1z:IsR wx (.agg #[.bool (ngB (K).num),.slice A1 (digs 10000 (K).num.natAbs).length c1]) (K).num:=⟨_,rfl,k1s⟩;have k1:IsP wx (.agg #[.bool (ngB (K).num),.slice A1 (digs 10000 (K).num.natAbs).length c1,.slice D1 (digs 10000 (K).den).length e1]) (K):=⟨_,_,rfl,k1s,k1d⟩;have hsz0:=bb.size;go_wp2
 go_loopw [7,8] (fun v7 v8 wr => ∃ (k:Nat) (ps:List Elt),k<=p.length/\Hid (ps.map (·.1)=(zG2 p K q).take k)/\zD0 65 wr wx.heap.size v7 ps/\zG3 .i64 10000 wr v7 ps/\Hid (zI6 wx.heap.size ps)/\Below wx.heap.size wx wr/\v8=.int .i64 (k:Int)) (fun _ v8 _=>p.length-(intOf v8).toNat)
 case atStart=>exact ⟨0,[],by omega,rfl,qF7 _ _ _ (zB1 _),zG3.nil _ _ _ _,zI6.nil _,zC6 (zB1 _) _,rfl⟩
 case round =>
  obtain ⟨k,ps,hk,HP,hR,hF,HNL,hby,rfl⟩:=hrel;have bw:=bb.trans (hby.mono bb.size);clear bb;have bb:=bw;clear bw;replace B1:=B1.bQ hby;replace k1s:=k1s.bQ hby;replace k1d:=k1d.bQ hby;replace k1z:=k1z.bQ hby;replace k1:=k1.bQ hby;have hszr:=bb.size;by_cases hlt:k<p.length
  ·obtain ⟨x,hq0_⟩:∃ x,p[k]?=some x:=⟨_,zA3 hlt⟩;obtain ⟨g0_,o0_,ue0,te0,hA0_,_,e00,e01,e02,es0,ed0⟩:=(sl0.bQ bb).at_ hq0_;subst hA0_;have HQ0:=hQ9 hq0_;clear hq0_;obtain ⟨Ae0,ce0,rfl,_⟩:=id es0;obtain ⟨De0,ee0,rfl,_⟩:=id ed0;have ke0:IsP wr (.agg #[.bool (ngB x.num),.slice Ae0 (digs 10000 x.num.natAbs).length ce0,.slice De0 (digs 10000 x.den).length ee0]) x:=⟨_,_,rfl,es0,ed0⟩;have hlt2:k<q.length:=by have:=HE.out;omega
   obtain ⟨y,hq2_⟩:∃ y,q[k]?=some y:=⟨_,zA3 hlt2⟩;obtain ⟨g2_,o2_,ue2,te2,hA2_,_,e20,e21,e22,es2,ed2⟩:=(sl2.bQ bb).at_ hq2_;subst hA2_;have HQ2:=hQ9 hq2_;clear hq2_;obtain ⟨Ae2,ce2,rfl,_⟩:=id es2;obtain ⟨De2,ee2,rfl,_⟩:=id ed2;have ke2:IsP wr (.agg #[.bool (ngB y.num),.slice Ae2 (digs 10000 y.num.natAbs).length ce2,.slice De2 (digs 10000 y.den).length ee2]) y:=⟨_,_,rfl,es2,ed2⟩;have lx:zC2 x 2000:=HLE.out.2.2.1 x (zA5 HQ0.out);have ly:zC2 y 2000:=HLE.out.2.2.2.1 y (zA5 HQ2.out);have lK:zC2 K 2000:=HLE.out.2.2.2.2;have lKy:zC2 (K*y) 5000:=(qA6 lK ly).mono (by decide);have nR:=hR.under;obtain ⟨AR,cR,hAR,_⟩:=(hR.sl hF).shape;subst hAR;have hszy:=hby.size
   have HL8:Hid (ps.length<=1000000000):=by
    have h1:=congrArg List.length HP.out;rw [zA9,bQ7] at h1;show _<=_
    have:=HLE.out.1
    have:=HLE.out.2.1
    omega
   have sB:=bb.size;go_upto_region 5 with (fail);refine flow 13 [Pd.eq (.slice AR (ps.map (·.1)).length cR),Pd.eq (.slice (some ⟨g0_,o0_,none⟩) p.length c0),Pd.eq (.int .i64 (k:Int)),Pd.eq (.pointer (some ⟨g0_,o0_+k*3,none⟩)),Pd.eq (.agg #[.bool (ngB x.num),.slice Ae0 (digs 10000 x.num.natAbs).length ce0,.slice De0 (digs 10000 x.den).length ee0]),Pd.eq (.agg #[.bool (ngB (K).num),.slice A1 (digs 10000 (K).num.natAbs).length c1,.slice D1 (digs 10000 (K).den).length e1]),Pd.eq (.slice (some ⟨g2_,o2_,none⟩) q.length c2),Pd.eq (.int .i64 (k:Int)),Pd.eq (.pointer (some ⟨g2_,o2_+k*3,none⟩)),Pd.eq (.agg #[.bool (ngB y.num),.slice Ae2 (digs 10000 y.num.natAbs).length ce2,.slice De2 (digs 10000 y.den).length ee2]),pp ((K*y)),ppf ((x-K*y)) wr.heap.size,pone (ppf (x-K*y) wr.heap.size)] (by kernel_rfl) (by kernel_rfl) ?ob2 ?done2
   case ob2 =>
    refine zA (zB8 rfl (zB3 rfl) (zB5 rfl rfl) (fun _ _ h=>h)) ?_;refine zA (zB8 rfl (zB3 rfl) (zB5 rfl rfl) (fun _ _ h=>h)) ?_;refine zA (zB8 rfl (zB3 rfl) (zB5 rfl rfl) (fun _ _ h=>h)) ?_;refine zA (zI rfl (zB3 rfl) (zB4 (j:=1) (by kernel_rfl) rfl rfl) (zB4 (j:=2) (by kernel_rfl) rfl rfl) (fun _ _ _ hx hy=>⟨_,by rw [hx,hy];exact zG6 underlying45 (by kernel_rfl) hlt _,rfl⟩)) ?_;refine zA (zB7 rfl (zB3 rfl) (zB4 (j:=3) (by kernel_rfl) rfl rfl) (fun w2 hb=>zM1 underlying65 rfl (by kernel_rfl) ((hb.cell (bQ0 wr _ e00)).trans e00) ((hb.cell (bQ0 wr _ e01)).trans e01) ((hb.cell (bQ0 wr _ e02)).trans e02)) (fun _ _=>rfl)) ?_;refine zA (zB7 rfl (zB3 rfl) (zB5 rfl rfl) (fun w2 hb=>zF0 underlying65 rfl (by kernel_rfl) (B1.drew.bQ hb)) (fun _ _=>rfl)) ?_;refine zA (zB8 rfl (zB3 rfl) (zB5 rfl rfl) (fun _ _ h=>h)) ?_;refine zA (zB8 rfl (zB3 rfl) (zB5 rfl rfl) (fun _ _ h=>h)) ?_;refine zA (zI rfl (zB3 rfl) (zB4 (j:=6) (by kernel_rfl) rfl rfl) (zB4 (j:=7) (by kernel_rfl) rfl rfl) (fun _ _ _ hx hy=>⟨_,by rw [hx,hy];exact zG6 underlying45 (by kernel_rfl) hlt2 _,rfl⟩)) ?_;refine zA (zB7 rfl (zB3 rfl) (zB4 (j:=8) (by kernel_rfl) rfl rfl) (fun w2 hb=>zM1 underlying65 rfl (by kernel_rfl) ((hb.cell (bQ0 wr _ e20)).trans e20) ((hb.cell (bQ0 wr _ e21)).trans e21) ((hb.cell (bQ0 wr _ e22)).trans e22)) (fun _ _=>rfl)) ?_;refine zA (zC7 rfl func62 (by kernel_rfl) (zB3 rfl) (zB4 (j:=5) (by kernel_rfl) rfl rfl) (zB4 (j:=9) (by kernel_rfl) rfl rfl) (fun w2 u0 u1 hb h0 h1=>by obtain rfl:=h0;obtain rfl:=h1;exact (yE5 _ K _ y _ (k1.drew.bQ hb) (ke2.drew.bQ hb) (lK.mono (by decide)) (ly.mono (by decide))).mono fun e w3 h=>zN.pd h)) ?_;refine zA (zC7 rfl func124 (by kernel_rfl) (zB3 rfl) (zB4 (j:=4) (by kernel_rfl) rfl rfl) (zB4 (j:=10) (by kernel_rfl) rfl rfl) (fun w2 u0 u1 hb h0 h1=>by obtain rfl:=h0;exact (yX1 _ x _ (K*y) _ (ke0.drew.bQ hb) h1 (lx.mono (by decide)) lKy).mono fun e w3 h=>zN.pdf h hb.size)) ?_;refine zA (qV (φ:=ppf (x-K*y) wr.heap.size) rfl rfl (zB4 (j:=11) (by kernel_rfl) rfl rfl) underlying45 zY7 (fun w v h=>⟨h,by obtain ⟨⟨u,t,rfl,hu,ht⟩,_⟩:=h;obtain ⟨_,_,rfl,_⟩:=id hu;obtain ⟨_,_,rfl,_⟩:=id ht;exact ⟨_,_,_,rfl,rfl,rfl,rfl⟩⟩) (fun _ _ h=>h)) ?_
    trivial
   case done2 =>
    refine fun w2 hb2 v0 h0 v1 h1 v2 h2 v3 h3 v4 h4 v5 h5 v6 h6 v7 h7 v8 h8 v9 h9 v10 h10 v11 h11 v12 h12 b hbf => ?_;obtain rfl:=h0;obtain rfl:=h1;obtain rfl:=h2;obtain rfl:=h3;obtain rfl:=h4;obtain rfl:=h5;obtain rfl:=h6;obtain rfl:=h7;obtain rfl:=h8;obtain rfl:=h9;have q10:=h10;obtain ⟨q11,f11⟩:=h11;obtain ⟨g12_,x12,y12,z12,rfl,c120,c121,c122,K12⟩:=h12;simp only [Act.put,zA0,zA2,zA1] at hbf;subst hbf;replace B1:=B1.bQ hb2;replace k1s:=k1s.bQ hb2;replace k1d:=k1d.bQ hb2;replace k1z:=k1z.bQ hb2;replace k1:=k1.bQ hb2;replace hR:=hR.bQ hb2;replace hF:=hF.bQ hb2;replace bb:=bb.trans (hb2.mono bb.size);have hsz2:=bb.size;replace hby:=hby.trans (hb2.mono hby.size);have s_11:=sB;have hszB:=hby.size;obtain ⟨⟨uE,tE,eE,sE,dE⟩,fE⟩:=K12;obtain ⟨rfl,rfl,rfl⟩:x12=.bool (ngB (x-K*y).num)/\y12=uE/\z12=tE:=by injection eE with eE;simpa using eE
    clear eE;obtain ⟨AE,cE,rfl,_⟩:=id sE;obtain ⟨DE,rE,rfl,_⟩:=id dE;refine yG6 (i:=13) (.tmp 22) (.tmp 34) (by kernel_rfl) rfl rfl rfl underlying45 zY7 (p:=(x-K*y,.slice AE (digs 10000 (x-K*y).num.natAbs).length cE,.slice DE (digs 10000 (x-K*y).den).length rE)) (ps:=ps) rfl hR rfl c120 c121 c122 rfl rfl HL8.out hszB fun v8 w8 b8 row8 bb8 HK8 hb8 => ?_;simp only [Act.put,zA0,zA2,zA1] at hb8;subst hb8;have EC:IsE .i64 10000 w2 ((x-K*y,.slice AE (digs 10000 (x-K*y).num.natAbs).length cE,.slice DE (digs 10000 (x-K*y).den).length rE):Elt):=⟨sE,dE⟩;have HN8:Hid (zI6 wx.heap.size (ps ++ [((x-K*y,.slice AE (digs 10000 (x-K*y).num.natAbs).length cE,.slice DE (digs 10000 (x-K*y).den).length rE):Elt)])):=HNL.out.snoc (p:=((x-K*y,.slice AE (digs 10000 (x-K*y).num.natAbs).length cE,.slice DE (digs 10000 (x-K*y).den).length rE):Elt)) ((fE _ _ _ rfl).1.mono hszy) ((fE _ _ _ rfl).2.mono hszy);have F8:=hF.snoc HK8.out.1 EC ((fE _ _ _ rfl).1.far nR) ((fE _ _ _ rfl).2.far nR);clear HK8 EC fE;refine qE5 (i:=14) (v8) (by kernel_rfl) rfl rfl rfl rfl rfl fun b hbf => ?_;simp only [Act.put,zA0,zA2,zA1] at hbf;subst hbf;refine zG (by kernel_rfl) ?_
    have HP8:Hid ((ps ++ [((x-K*y,.slice AE (digs 10000 (x-K*y).num.natAbs).length cE,.slice DE (digs 10000 (x-K*y).den).length rE):Elt)]).map (·.1)=(zG2 p K q).take (k+1)):=by
     show _=_
     rw [bX5,HP.out,zQ7 (show (zG2 p K q)[k]?=some (x-K*y) from qM5 (f:=fun x y=>x-K*y) HQ0.out HQ2.out)]
     rfl
    have b8:=hby.trans bb8;clear hR hF HP HNL;go_wp2;go_roundw;case rel=>exact ⟨k+1,_,by omega,HP8,row8,F8,HN8,b8,by go_num⟩
    case measure=>simp [intOf];omega
  ·have HPE:Hid (IsN .i64 10000 wr w.heap.size u7 (zG2 p K q)):=by
    have h:=HP.out;rw [zA7 (by have:=HLE.out.1;omega)] at h;exact ⟨ps,h,hR.isVF,fun p hp=>⟨(hF p hp).1,(HNL.out p hp).1.mono hsz0,(HNL.out p hp).2.mono hsz0⟩,fun g hg=>⟨zB2 hsz0 (hR.base_le g hg),hR.under g hg⟩⟩
   clear hR hF HP HNL;go_wp2;go_ret;exact ⟨_,rfl,HPE.out,bb⟩
end rat
namespace rat
open Go.RowKit Go.Shelf num mem nat txt str flow whl
def zP8 (N:Nat):Nat->Nat
 | 0=>N
 | n+1=>(zP8 N n+zP8 N n+1)*4+1
theorem yK9 (N n:Nat):N<=zP8 N n:=by
 induction n with
 | zero=>exact zB1 _
 | succ n ih=>show N<=(zP8 N n+zP8 N n+1)*4+1;omega
theorem jJ5 (a0:Value) (ts:List (List (List Rat))) (N:Nat) (w:World) (hN:Hid (1<=N/\N<=590)) (h0:zK9 w a0 ts) (hl:ts.length<=2 /\ ∀ t∈ts,t.length<=4/\(∀ r∈t,r.length<=4)/\zE0 t N) :
    Calls prog 30 #[a0] w (fun e w'=>(qB3 ts/\zU9 (qN0 ts) 0 w e w')\/(¬ qB3 ts/\zU9 [] 8 w e w')):=by
  have st0:=h0;obtain ⟨A0,c0,rfl,hc0⟩:=h0.shape;have HL:=hQ9 hl;have hl3:ts.length<=2:=hl.1;clear hl
  go_enter func30,ntmps30
  by_cases hn:ts=[]
  · subst hn;go_wp2;go_ret2;exact .inr ⟨fun h=>h.1 rfl,qB9 8 (by decide) (Below.refl _ _)⟩
  have hpos:0<ts.length:=List.length_pos_iff.2 hn;have hne0:¬ ((ts.length:Nat):Int)=0:=by omega
  have hneb:(((ts.length:Nat):Int) == 0)=false:=by rw [beq_eq_false_iff_ne];omega
  obtain ⟨ad,rfl⟩:=st0.place hn;go_wp2
  go_loopw [14] (fun v14 wr => ∃ k:Nat,k<=ts.length/\Hid (∀ (i:Nat) (t:List (List Rat)),i<k->ts[i]?=some t->okAt ts i t)/\Below w.heap.size w wr/\v14=.int .i64 (k:Int)) (fun v14 _=>ts.length-(intOf v14).toNat)
  case atStart=>exact ⟨0,by omega,(by show ∀ i,_;intro i t hi;omega),Below.refl _ _,rfl⟩
  case round =>
    obtain ⟨k,hk,HA,bb,rfl⟩:=hrel;by_cases hlt:k<ts.length
    · obtain ⟨t, ht⟩ : ∃ t, ts[k]? = some t := ⟨_, zA3 hlt⟩;have HT:=hQ9 ht;obtain ⟨At,ct,hit,ect,stt⟩:=(st0.bQ bb).at2 ht;clear ht;by_cases hm:zF5 t
      · have HM:=hQ9 hm;clear hm
        go_wp2_with fail
        refine (zW7 _ t true _ stt (decide_eq_true HM.out).symm).mono ?_;rintro e w2 ⟨rfl,b2⟩;have bb2:=bb.trans (b2.mono bb.size);have stt2:=stt.bQ b2;clear ect stt b2;by_cases hk0:0<k
        · obtain ⟨j,rfl⟩:∃ j,k=j+1:=⟨k-1,by omega⟩;obtain ⟨s,hs⟩:∃ s,ts[j]?=some s:=⟨_,zA3 (by omega)⟩;have HS:=hQ9 hs;obtain ⟨As,cs,his,ecs,sts⟩:=(st0.bQ bb2).at2 hs;have hgt:(0:Int)<((j+1:Nat):Int):=by omega
          clear hs;go_wp2_with fail
          by_cases hf:zC s=t.length
          · have HF:=hQ9 hf;clear hf;refine (yH9 _ _ s t true _ sts stt2 (decide_eq_true HF.out).symm).mono ?_;rintro e w3 ⟨rfl,b3⟩;have bb3:=bb2.trans (b3.mono bb2.size)
            have HA2:Hid (∀ (i:Nat) (t:List (List Rat)),i<j+1+1->ts[i]?=some t->okAt ts i t):=by
              show ∀ i,_
              intro i t' hi h';by_cases e:i=j+1
              · subst e;rw [HT.out] at h';injection h' with h';subst h';refine ⟨HM.out,fun s' _ hs' => ?_⟩;rw [Nat.add_sub_cancel,HS.out] at hs';injection hs' with hs';subst hs';exact HF.out
              · exact HA.out i t' (by omega) h'
            have hsk:ts.length-(j+1+1)<ts.length-(j+1):=by omega
            clear ecs sts stt2 b3 HA;go_wp2;go_roundw;case rel=>exact ⟨j+1+1,by omega,HA2,bb3,by go_num⟩
            case measure=>simp [intOf];omega
          · have HF:=hQ9 hf;clear hf;refine (yH9 _ _ s t false _ sts stt2 (decide_eq_false HF.out).symm).mono ?_;rintro e w3 ⟨rfl,b3⟩;have bb3:=bb2.trans (b3.mono bb2.size);have HN:Hid (¬ qB3 ts):=fun h=>HF.out ((h.2 (j+1) t HT.out).2 s (by omega) (by rw [Nat.add_sub_cancel];exact HS.out));clear ecs sts stt2 b3 HA;go_wp2;go_ret2;exact .inr ⟨HN.out,qB9 8 (by decide) bb3⟩
        · have hgt:¬ (0:Int)<(k:Int):=by omega
          have HA2:Hid (∀ (i:Nat) (t:List (List Rat)),i<k+1->ts[i]?=some t->okAt ts i t):=by
            show ∀ i,_
            intro i t' hi h';obtain rfl:i=k:=by omega
            rw [HT.out] at h';injection h' with h';subst h';exact ⟨HM.out,fun s' h0' _=>absurd h0' hk0⟩
          have hsk:ts.length-(k+1)<ts.length-k:=by omega
          clear HA stt2;go_wp2;go_roundw;case rel=>exact ⟨k+1,by omega,HA2,bb2,by go_num⟩
          case measure=>simp [intOf];omega
      · have HM:=hQ9 hm;clear hm
        go_wp2_with fail
        refine (zW7 _ t false _ stt (decide_eq_false HM.out).symm).mono ?_;rintro e w2 ⟨rfl,b2⟩;have bb2:=bb.trans (b2.mono bb.size);have HN:Hid (¬ qB3 ts):=fun h=>HM.out (h.2 k t HT.out).1;go_wp2;go_ret2;exact .inr ⟨HN.out,qB9 8 (by decide) bb2⟩
    · obtain rfl:k=ts.length:=by omega
      have HF:Hid (qB3 ts):=⟨hn,fun i t ht=>HA.out i t (zA4.1 ht).1 ht⟩;obtain ⟨t0,ht0⟩:∃ t0,ts[0]?=some t0:=⟨_,zA3 hpos⟩;have HT0:=hQ9 ht0;have bd:=bb.drew;obtain ⟨At,ct,hit,ecd,std⟩:=(st0.bQ bd).at2 ht0;have HB0:Hid (t0.length<=4/\(∀ r∈t0,r.length<=4)/\zE0 t0 N):=HL.out.2 t0 (zA5 ht0);have ht04:t0.length<=4:=HB0.out.1;have ead:ad.add 0=ad:=by simp [Addr.add]
      rw [ead] at ecd;have ecz:wr.cell? ad=some (.slice At t0.length ct):=ecd;clear ht0 HA;go_upto_region 9 with (fail)
      go_region_law (first
        | (go_simp;go_at_call 67;refine (qO8 _ t0.length _ rfl (by omega)).mono ?_;rintro e w4 ⟨g,rfl,TB,hg,b4⟩;have TO:zP6 w4 wr.drew.heap.size _ _ _:=TB.owned hg (by omega);have ec4:=(b4.cell (bQ0 _ _ ecd)).trans ecd)
        | (go_simp;go_at_call 66;refine (yI0 g t0.length t0.length _ _ _ t0 wr.drew w4 TO std b4 (by simp) rfl hg ⟨fun r hr=>by rw [qO5] at hr;rw [(List.mem_replicate.1 hr).2];exact Nat.zero_le _,fun r hr=>zB2 (HB0.out.2.1 r hr) (by decide),HB0.out.2.2.mono (by have:=hN.out;omega)⟩).mono ?_;rintro e w5 ⟨us5,pss5,rfl,T5,V5,L5,b5⟩))
      all_goals
        have SA:SlT .u64 4294967296 w5 (.slice (some ⟨g,0,none⟩) t0.length t0.length) t0:=by
          have h:=T5.slT;rw [V5,qO5,qT9] at h;exact h
        have bb5:Below w.heap.size w w5:=bd.trans ((b4.trans b5).mono bd.size)
        obtain ⟨A',hA',stT⟩:∃ A':Addr,(if c0=1 then some ad else some ({ block:=ad.block,off:=ad.off+1 } : Addr))=some A'/\zK9 w (.slice (some A') (ts.length-1) (c0-1)) ts.tail:=by
          have h:=st0.tail hn;by_cases hc1:c0=1
          · rw [if_pos hc1] at h;exact ⟨ad,by rw [if_pos hc1],h⟩
          · rw [if_neg hc1] at h;exact ⟨_,by rw [if_neg hc1];simp [Addr.add],h⟩
        have h1n:(1:Int)<=((ts.length:Nat):Int):=by omega
        have HTL:Hid (ts.tail.length=ts.length-1):=List.length_tail;clear T5 V5 L5 TB TO b4 b5 std ecz ecd bb bd;go_wp2
        go_loopw [6,49] (fun v6 v49 wr => ∃ (j:Nat) (ans:List (List Rat)),j<=ts.length-1/\SlT .u64 4294967296 wr v6 ans/\Hid (ans=(ts.tail.take j).foldl zJ1 t0)/\Hid ((∀ s,ts[j]?=some s -> ∀ r∈ans,r.length=zC s)/\ans.length<=4/\zE0 ans (zP8 N j))/\Below w.heap.size w wr/\v49=.int .i64 (j:Int)) (fun _ v49 _=>(ts.length-1)-(intOf v49).toNat)
        case atStart=>exact ⟨0,t0,by omega,SA,by show _=_;rw [bX6];rfl,⟨fun s hs r hr=>by rw [HT0.out] at hs;injection hs with hs;subst hs;exact ((HF.out.2 0 t0 HT0.out).1.2.2 r hr),HB0.out.1,HB0.out.2.2⟩,bb5,rfl⟩
        case round =>
          clear SA bb5;obtain ⟨j,ans,hj,SA,HAN,HAB,bb,rfl⟩:=hrel;obtain ⟨AA,cA,eA,_,_⟩:=SA.shape;subst eA;by_cases hlt2:j<ts.length-1
          · obtain ⟨t,ht⟩:∃ t,ts.tail[j]?=some t:=⟨_,zA3 (by rw [HTL.out];exact hlt2)⟩;have HT:=hQ9 ht;obtain ⟨At1,ct1,hit1,ect,stt⟩:=(stT.bQ bb).at2 ht;have ht1:ts[j+1]?=some t:=by rw [List.getElem?_tail] at ht;exact ht
            obtain ⟨s,hs⟩:∃ s,ts[j]?=some s:=⟨_,zA3 (by omega)⟩;have hok:=HF.out.2 (j+1) t ht1;have htm:=zA5 ht1;have hws:zC s=t.length:=hok.2 s (by omega) (by rw [Nat.add_sub_cancel];exact hs)
            have hj1:zP8 N j<=N:=by
              obtain rfl:j=0:=by omega
              exact zB1 _
            have htl:t.length<=4:=(HL.out.2 t htm).1;have hrows:∀ r∈ans,r.length=t.length:=fun r hr=>by rw [HAB.out.1 s hs r hr,hws]
            have hmul:(N+zP8 N j+1)*t.length+1<=4800:=by
              have:=bY6 (show N+zP8 N j+1<=1181 by have:=hN.out;omega) htl
              omega
            have HPR:Hid ((∀ r∈ans,r.length=t.length)/\ans.length<=1000/\t.length<=1000/\zC t<=1000/\zU7 t/\zE0 ans (zP8 N j)/\zE0 t N/\1<=N/\N<=4800/\(N+zP8 N j+1)*t.length+1<=4800):=⟨hrows,by have:=HAB.out.2.1;omega,by omega,zB2 hok.1.2.1 (by decide),hok.1.2.2,HAB.out.2.2,(HL.out.2 t htm).2.2,hN.out.1,by have:=hN.out;omega,hmul⟩;have HAN2:Hid (zJ1 ans t=(ts.tail.take (j+1)).foldl zJ1 t0):=by show _=_;rw [yI2 zJ1 t0 HT.out,HAN.out]
            have HAB2:Hid ((∀ s,ts[j+1]?=some s -> ∀ r∈zJ1 ans t,r.length=zC s)/\(zJ1 ans t).length<=4/\zE0 (zJ1 ans t) (zP8 N (j+1))):=by
              refine ⟨fun s' hs' r hr => ?_,by rw [qT6];exact HAB.out.2.1,?_⟩
              · rw [ht1] at hs';injection hs' with hs';subst hs';exact yF1 r hr
              · exact jB HAB.out.2.2 ((HL.out.2 t htm).2.2.mono (yK9 N j)) (zB2 hN.out.1 (yK9 N j)) hrows htl
            clear ht ht1 hs hok htm hws hrows hmul;go_wp2_with fail
            refine (jG0 _ _ ans t (zP8 N j) N _ SA stt HPR.out.1 HPR.out.2).mono ?_;rintro e w7 ⟨V7,rfl,S7,b7⟩;have bb7:=bb.trans (b7.mono bb.size);have hsk:ts.length-1-(j+1)<ts.length-1-j:=by omega
            obtain ⟨A7,c7,e7,_,_⟩:=S7.shape;subst e7;clear SA stt ect HAN HAB;go_wp2;go_roundw;case rel=>exact ⟨j+1,zJ1 ans t,by omega,S7,HAN2,HAB2,bb7,by go_num⟩
            case measure=>simp [intOf];omega
          · obtain rfl:j=ts.length-1:=by omega
            have HE:Hid (ans=qN0 ts):=by
              show _=_
              rw [HAN.out,zA7 (by rw [HTL.out];exact zB1 _),qN0]
              congr 1
              cases ts with
              | nil=>exact absurd rfl hn
              | cons a l=>have h:=HT0.out;simpa using h.symm
            have hS:SlT .u64 4294967296 wr (.slice AA ans.length cA) (qN0 ts):=by rw [<- HE.out];exact SA
            clear SA HAN HAB;go_wp2;go_ret2;exact .inl ⟨HF.out,_,rfl,by rw [if_pos rfl];exact hS,bb⟩
def zH6 (v:Value):Prop:=∃ A n c,v=.slice A n c
section
variable {P:Program}
theorem jJ6 {w:World} {base:Nat} {t ty e:TypeId} (hT:P.underlying t=some (.slice e)) (hI:∃ i,P.info? e=some i/\i.zero=some (.slice none 0 0)/\i.size=1/\i.bytes=24) {v:Value} {vs news:List Value} (hown:zC8 zH6 w base e v vs) {ad:Addr} {m c:Nat} (hm:m=news.length) (hm0:0<m)
  (hr:∀ (i:Nat) (u:Value),news[i]?=some u->w.cell? (ad.add i)=some u) (h1:∀ u∈news,zH6 u) (hlen:vs.length+m<=1000000000) (hbase:base<=w.heap.size) :
  ∃ v' w',(Builtin.append_ #[t,t] ty #[v,.slice (some ad) m c]).run P w=.ok v' w'/\zC8 zH6 w' base e v' (vs ++ news)/\w.grownBy w' v.ownBlock/\(v'.ownBlock=v.ownBlock\/v'.ownBlock=some w.heap.size):=by
 obtain ⟨i,hi,hz,hs,hby⟩:=hI;subst hm;have one:∀ u∈news,u.oneCell'=true:=fun u hu=>by obtain ⟨A_,n_,c_,rfl⟩:=h1 u hu;rfl
 have hl:news.length=news.length*i.size:=by rw [hs,Nat.mul_one]
 have zs:∀ n,∀ c∈Builtin.zeroCells (Value.slice none 0 0).cells n,zH6 c:=by
  intro n c hc
  have:c=.slice none 0 0:=by
   have h0:∀ n,∀ c∈(Builtin.zeroCells (Value.slice none 0 0).cells n),c=.slice none 0 0:=by
    intro n c hc;unfold Builtin.zeroCells at hc;simp [Value.cells,Nat.mod_one] at hc;obtain ⟨_,h3⟩:=hc
    first | exact h3.symm | exact h3.2.symm
   exact h0 n c hc
  exact ⟨none,0,0,this⟩
 obtain ⟨v',w',g1,g2,g3,_,g5⟩:=run_append_own_at (P:=P) w base t ty e i (.slice none 0 0) 1 24 hT hi hz hs hby rfl (by decide) v vs.length vs hown.1 ad news.length c news (by simp) (fun j u hu=>hr j u hu) one (by unfold maxLen;omega) (by omega) hbase;refine ⟨v',w',g1,⟨by unfold zD;rw [zA8];exact g2,fun g hg => ?_⟩,g3,g5⟩;rcases hown.1.2 with ⟨rfl,h0⟩|⟨g',cap,cur,rfl,hbg,hgg,hnc,hcm,hcs,htake⟩
 ·have hx:vs=[]:=List.eq_nil_of_length_eq_zero h0;subst hx;have hr2:=run_append_nil (P:=P) w t ty e i (.slice none 0 0) hT hi hz ad news.length c news hl hr hm0 (by omega) (by rw [hby];simp at hlen;omega);rw [hr2] at g1;injection g1 with g1 g1';subst g1;subst g1';obtain rfl:w.heap.size=g:=by simpa [Value.ownBlock] using hg
  refine ⟨_,heap_alloc_new w.drew _,fun c hc => ?_⟩;rcases Array.mem_append.1 hc with hc | hc
  ·exact h1 c (by simpa using hc)
  ·exact zs _ c hc
 ·obtain ⟨cs,hcs1,hcs2⟩:=hown.2 g' rfl;rw [hgg] at hcs1;injection hcs1 with hcs1;injection hcs1 with hcs1 _ _;subst hcs1;by_cases hroom:vs.length+news.length<=cap
  ·have hfit:vs.length*i.size+news.length<=cur.size:=by rw [hcs,hs];omega
   have hr2:=run_append_room (P:=P) w t ty e i hT hi g' vs.length cap cur hgg ad news.length c news hl hr one hroom hfit;rw [hr2] at g1;injection g1 with g1 g1';subst g1;subst g1';obtain rfl:g'=g:=by simpa [Value.ownBlock] using hg
   refine ⟨_,setRow_heap w g' cur _ e _ hgg,fun c hc => ?_⟩;have hc2:c∈cur.toList.take (vs.length*i.size) ++ news ++ cur.toList.drop (vs.length*i.size+news.length):=by simpa using hc
   rcases List.mem_append.1 hc2 with hc2 | hc2
   ·rcases List.mem_append.1 hc2 with hc2 | hc2
    ·exact hcs2 c (by simpa using List.mem_of_mem_take hc2)
    ·exact h1 c hc2
   ·exact hcs2 c (by simpa using List.mem_of_mem_drop hc2)
  ·have holds:∀ j u,vs[j]?=some u->w.cell? ((⟨g',0,none⟩:Addr).add j)=some u:=World.ownsRow.cells hown.1 (g:=g') rfl;have hr2:=run_append_grow (P:=P) w t ty e i (.slice none 0 0) hT hi hz ⟨g',0,none⟩ vs.length cap vs (by rw [hs];omega) holds ad news.length c news hl hr (by omega) (by omega) (growslice_fits (by omega) (by rw [hby];omega));rw [hr2] at g1;injection g1 with g1 g1';subst g1;subst g1';obtain rfl:w.heap.size=g:=by simpa [Value.ownBlock] using hg
   refine ⟨_,heap_alloc_new w.drew _,fun c hc => ?_⟩;rcases Array.mem_append.1 hc with hc | hc
   ·rcases Array.mem_append.1 hc with hc | hc
    ·have hcv:c∈vs:=by simpa using hc
     rw [<- htake] at hcv;exact hcs2 c (by simpa using List.mem_of_mem_take hcv)
    ·exact h1 c (by simpa using hc)
   ·exact zs _ c hc
theorem yL {w:World} {o:Oper} {a:Act} {K:Act->World->Prop} {Q:Exit->Act->World->Prop} (s x:Operand) {t:TypeId}
  (ho:o.op=.call { callee:=.builtin .append,args:=#[s,x],argTypes:=#[t,t] })
  {base:Nat} {e:TypeId} (hT:P.underlying t=some (.slice e)) (hI:∃ i,P.info? e=some i/\i.zero=some (.slice none 0 0)/\i.size=1/\i.bytes=24) {v:Value} {vs news:List Value} (hs:a.eval s=v) (hown:zC8 zH6 w base e v vs) {ad:Addr} {m c:Nat} (hx:a.eval x=.slice (some ad) m c) (hm:m=news.length) (hm0:0<m)
  (hr:∀ (i:Nat) (u:Value),news[i]?=some u->w.cell? (ad.add i)=some u) (h1:∀ u∈news,zH6 u) (hlen:vs.length+m<=1000000000) (hbase:base<=w.heap.size)
  (h:∀ v' w',zC8 zH6 w' base e v' (vs ++ news)->Hid (w.grownBy w' v.ownBlock)->Hid (v'.ownBlock=v.ownBlock\/v'.ownBlock=some w.heap.size)->K (a.put o.dst v') w'):o.wp P a w K Q:=by
 obtain ⟨v',w',hrun,h2,h3,h4⟩:=jJ6 (P:=P) (ty:=o.type) hT hI hown (c:=c) hm hm0 hr h1 hlen hbase;unfold Oper.wp execOp;simp only [ho,resolve,invoke,builtin,Sem.run_bind,Sem.run_pure,Result.andThen_ok,bX7,List.map_cons,List.map_nil,hs,hx,hrun];exact h v' w' h2 h3 h4
theorem yL0 {w:World} {ops:Array Oper} {rest:List Oper} {o:Oper} {a:Act} {Q:Exit->Act->World->Prop} (hgd:o.guard=none) (s x:Operand) {t:TypeId}
  (ho:o.op=.call { callee:=.builtin .append,args:=#[s,x],argTypes:=#[t,t] })
  {base:Nat} {e:TypeId} (hT:P.underlying t=some (.slice e)) (hI:∃ i,P.info? e=some i/\i.zero=some (.slice none 0 0)/\i.size=1/\i.bytes=24) {v:Value} {vs news:List Value} (hs:a.eval s=v) (hown:zC8 zH6 w base e v vs) {ad:Addr} {m c:Nat} (hx:a.eval x=.slice (some ad) m c) (hm:m=news.length) (hm0:0<m)
  (hr:∀ (i:Nat) (u:Value),news[i]?=some u->w.cell? (ad.add i)=some u) (h1:∀ u∈news,zH6 u) (hlen:vs.length+m<=1000000000) (hbase:base<=w.heap.size)
  (h:∀ v' w',zC8 zH6 w' base e v' (vs ++ news)->Hid (w.grownBy w' v.ownBlock)->Hid (v'.ownBlock=v.ownBlock\/v'.ownBlock=some w.heap.size)->wpList P ops Q rest (a.put o.dst v') w'):wpList P ops Q (o :: rest) a w :=
 wpList_plain hgd fun _ hK=>yL s x ho hT hI hs hown hx hm hm0 hr h1 hlen hbase fun v' w' h2 h3 h4=>hK _ _ (h v' w' h2 h3 h4)
end
theorem zC8.keepG {w w':World} {base:Nat} {e:TypeId} {V:Value} {vs:List Value} {v:Value} {r:List Rat} (h:zC8 zH6 w base e V vs) (hg:w.grownBy w' V.ownBlock) (hs:SlF .u64 4294967296 w v r):SlF .u64 4294967296 w' v r:=by
  cases ho:V.ownBlock with
  | none=>rw [ho] at hg;exact hs.bQ ⟨hg.os,hg.tape,hg.output,hg.size,fun k hk=>hg.block k hk (by simp)⟩
  | some g =>
    rw [ho] at hg;obtain ⟨cs,h1,h2⟩:=h.2 g ho;exact hs.keepX h1 (fun c hc b=>by obtain ⟨A,n,m,rfl⟩:=h2 c hc;simp) (fun c hc n=>by obtain ⟨A,n',m,rfl⟩:=h2 c hc;simp) hg
structure TabX (w:World) (base:Nat) (V:Value) (us:List Value) (K:List (List Rat)):Prop where
 row:zC8 zH6 w base 44 V us
 len:us.length=K.length
 own:∀ (i:Nat) (u:Value) (r:List Rat),us[i]?=some u->K[i]?=some r->SlF .u64 4294967296 w u r
theorem TabX.nil (w:World) (base:Nat):TabX w base (.slice none 0 0) [] []:=⟨qW3 _ _ _ _,rfl,fun i u r h=>by simp at h⟩
theorem TabX.bQ {w w':World} {base:Nat} {V:Value} {us:List Value} {K:List (List Rat)} (h:TabX w base V us K) (hb:Below w.heap.size w w'):TabX w' base V us K:=⟨h.row.bQ hb,h.len,fun i u r hu hr=>(h.own i u r hu hr).bQ hb⟩
theorem TabX.snoc {w w':World} {base:Nat} {V V' u:Value} {us:List Value} {K:List (List Rat)} {r:List Rat} (h:TabX w base V us K) (h':zC8 zH6 w' base 44 V' (us ++ [u])) (hg:w.grownBy w' V.ownBlock) (hu:SlF .u64 4294967296 w u r):TabX w' base V' (us ++ [u]) (K ++ [r]):=by
 refine ⟨h',by simp [h.len],fun i a b ha hb => ?_⟩;by_cases hi:i<us.length
 ·rw [zB0 hi] at ha;rw [zB0 (by rw [<- h.len];exact hi)] at hb;exact h.row.keepG hg (h.own i a b ha hb)
 ·rw [bW0 (by omega)] at ha;rw [bW0 (by rw [<- h.len];omega),<- h.len] at hb;rcases hj:i-us.length with _ | j
  ·rw [hj] at ha hb;obtain rfl:u=a:=by simpa using ha
   obtain rfl:r=b:=by simpa using hb
   exact h.row.keepG hg hu
  ·rw [hj] at ha;simp at ha
theorem TabX.slT {w:World} {base:Nat} {V:Value} {us:List Value} {K:List (List Rat)} (h:TabX w base V us K):SlT .u64 4294967296 w V K:=by
 refine ⟨us,h.len,?_,h.own⟩;have h1:=h.row.1;rcases h1.2 with ⟨e,h0⟩|⟨g,cap,cur,e,_,hg,hn,hm,_,_⟩
 ·obtain rfl:us=[]:=List.length_eq_zero_iff.1 h0;exact ⟨none,0,e,by simp,by unfold maxLen;omega,fun i u hu=>by simp at hu⟩
 ·exact ⟨_,cap,e,hn,hm,fun i u hu=>⟨_,rfl,World.ownsRow.cells h1 (g:=g) (by rw [e];rfl) i u hu⟩⟩
def frs (ps:List Nat) (C:Nat):List Nat:=(List.range C).filter fun j=>decide (¬ j∈ps)
theorem yL1 {ps:List Nat} {j:Nat} (h:j∈ps):frs ps (j+1)=frs ps j:=by
 unfold frs;rw [List.range_succ,List.filter_append];simp [h]
theorem yL2 {ps:List Nat} {j:Nat} (h:¬ j∈ps):frs ps (j+1)=frs ps j ++ [j]:=by
 unfold frs;rw [List.range_succ,List.filter_append];simp [h]
def nvR (T:List (List Rat)) (ps:List Nat) (C j k:Nat):List Rat:=(List.range C).map (nv (zB6 T) k (pv ps) j)
def nvT (T:List (List Rat)) (ps:List Nat) (C m:Nat):List (List Rat):=(frs ps m).map fun j=>nvR T ps C j ps.length
theorem zS1 (T:List (List Rat)) (ps:List Nat) (C j k:Nat):(nvR T ps C j k).length=C:=by unfold nvR;simp
theorem qI5 {T:List (List Rat)} {ps:List Nat} {C j k c:Nat} (h:c<C):(nvR T ps C j k)[c]?=some (nv (zB6 T) k (pv ps) j c):=by
 unfold nvR;rw [bQ8,List.getElem?_range h]
 rfl
theorem jJ7 (T:List (List Rat)) (ps:List Nat) {C j:Nat} (hj:j<C):nvR T ps C j 0=zW5 C j:=by
 apply bX0;intro c;by_cases hc:c<C
 ·rw [qI5 hc];unfold nv;by_cases e:j=c
  ·subst e;rw [yZ1 hc,if_pos rfl]
  ·unfold zW5 zK6;rw [bW1 e,List.getElem?_replicate,if_pos hc,if_neg (fun h=>e h.symm)];show some (-(0:Rat))=some 0
   rw [Rat.neg_zero]
 ·rw [bW4 (by rw [zS1];omega),bW4 (by rw [qT4];omega)]
theorem jJ8 {T:List (List Rat)} {ps:List Nat} {n C j k:Nat} (h:Ech n C (zB6 T) ps.length (pv ps)) (hk:k<ps.length) (hj:¬ j∈ps):(nvR T ps C j k).set (pv ps k) (-(zB6 T k j))=nvR T ps C j (k+1):=by
  have hne:pv ps k≠j:=fun e=>hj (zZ3.1 ⟨k,hk,e⟩);have hlt:=h.lt k hk;apply bX0;intro c;by_cases hc:c<C
  · rw [qI5 hc];by_cases e:pv ps k=c
    · subst e;rw [bQ3 (by rw [zS1];exact hc)];unfold nv;rw [if_neg hne];show _=some (-(zC0 k _+(if pv ps k=pv ps k then zB6 T k j else 0)))
      rw [zN3 fun i hi=>if_neg fun e=>by have:=h.inj (by omega) hk e;omega,if_pos rfl,Rat.zero_add]
    · rw [bW1 e,qI5 hc];unfold nv;by_cases e2:c=j
      · rw [if_pos e2,if_pos e2]
      · rw [if_neg e2,if_neg e2];show _=some (-(zC0 k _+(if pv ps k=c then zB6 T k j else 0)))
        rw [if_neg e,Rat.add_zero]
  · rw [bW4 (by rw [bQ5,zS1];omega),bW4 (by rw [zS1];omega)]
theorem nvT_in {T:List (List Rat)} {ps:List Nat} {C j:Nat} (h:j∈ps):nvT T ps C (j+1)=nvT T ps C j:=by unfold nvT;rw [yL1 h]
theorem nvT_out {T:List (List Rat)} {ps:List Nat} {C j:Nat} (h:¬ j∈ps):nvT T ps C (j+1)=nvT T ps C j ++ [nvR T ps C j ps.length]:=by unfold nvT;rw [yL2 h,bX5];rfl
structure KerE (T0:List (List Rat)) (n C S:Nat) (T:List (List Rat)) (ps:List Nat):Prop where
 sh:shp T n C
 ech:Ech n C (zB6 T) ps.length (pv ps)
 red:Red n (zB6 T) ps.length (pv ps) 0
 ker:zE4 n C (zB6 T0) (zB6 T)
 len:∃ S',zG0 T S'/\S'+1<=(S+1)*2^(min ps.length (n-1))*2^(ps.length-1)
def RetKer (T0:List (List Rat)) (n C S:Nat) (w:World) (e:Ending) (w':World):Prop:=∃ V T ps,e=.returned (.tuple #[V,.int .i64 0])/\SlT .u64 4294967296 w' V (nvT T ps C C)/\KerE T0 n C S T ps/\Below w.heap.size w w'
theorem jJ9 (a0:Value) (T:List (List Rat)) (S:Nat) (w:World) (h0:SlT .u64 4294967296 w a0 T) (hc:Hid (zX1 T S)) :
    Calls prog 95 #[a0] w (fun e w'=>(zF5 T/\RetKer T T.length (zC T) S w e w')\/(¬ zF5 T/\e=.returned (.tuple #[.slice none 0 0,.int .i64 8])/\Below w.heap.size w w')):=by
  have st0:=h0;obtain ⟨A0,c0,rfl,hc0,hm0⟩:=h0.shape;obtain ⟨n,hn⟩:∃ n,n=T.length:=⟨_,rfl⟩;obtain ⟨C,hC⟩:∃ C,C=zC T:=⟨_,rfl⟩;have hn5:n<=5:=by rw [hn];exact hc.out.1
  have hC2:C<=200:=by rw [hC];exact hc.out.2.1
  have HST:=hQ9 st0;clear h0 st0 hc0 hm0
  go_enter func95,ntmps95;go_wp2_with fail
  refine (qW5 _ T S _ HST.out hc).mono ?_;rintro e w2 (⟨hm,g,v,T',us,ps,rfl,hR⟩|⟨hm,rfl,b2⟩)
  · rw [<- hn, <- hC] at hR;rw [<- hn];have HNC:=hQ9 (zA hn hC);have HK : Hid (KerE T n C S T' ps):=⟨hR.sh,hR.ech,hR.red,hR.ker,hR.len⟩;have hT'l : T'.length = n:=hR.sh.1;have HW : Hid (zC T' = C):=qI3 hR.sh (fun e => by rw [hC]; rw [hn] at e; rw [List.length_eq_zero_iff.1 e]; rfl);have sT:=hR.tab.slT hT'l (by omega);have tT:=hR.tab;obtain ⟨Av,cv,ev⟩:=zD.slice hR.piv.1;rw [zN5] at ev;subst ev;have pv0:=hR.piv.pvI;have b2:=hR.bel;have hpn : ps.length <= n:=hR.ech.le;have HM:=hQ9 hm;have HTL:=hQ9 hT'l;clear hR hm hn hC hT'l
    go_wp2_with fail
    refine (zS9 _ T' _ sT).mono ?_;rintro e w3 ⟨rfl,b3⟩;rw [HW.out];have bb3:=b2.trans (b3.mono b2.size);have tT3:=tT.bQ b3;have pv3:=pv0.bQ b3;clear sT tT pv0 b2 b3;go_wp2
    go_loopw [9,30] (fun v9 v30 wr => ∃ (j:Nat) (us2:List Value),j<=C/\TabX wr w3.heap.size v9 us2 (nvT T' ps C j)/\Hid (Below w3.heap.size w3 wr)/\v30=.int .i64 (j:Int)) (fun _ v30 _=>C-(intOf v30).toNat)
    case atStart=>exact ⟨0,[],by omega,TabX.nil _ _,Below.refl _ _,rfl⟩
    case round =>
      obtain ⟨j,us2,hj,TX,HB,rfl⟩:=hrel;obtain ⟨A9,c9,e9⟩:=zD.slice TX.row.1;subst e9;by_cases hlt:j<C
      · have pvr:=pv3.bQ HB.out;have hps:ps.length<=1000:=by omega
        by_cases hin:j∈ps
        · have CC:=qW6 _ ps j wr pvr hps;rw [decide_eq_true hin] at CC;have HNX:Hid (nvT T' ps C (j+1)=nvT T' ps C j):=nvT_in hin;clear hin pvr hps
          go_wp2_with fail
          refine CC.mono ?_;rintro e w4 ⟨rfl,b4⟩;have TX4:=TX.bQ b4;have HB4:Hid (Below w3.heap.size w3 w4):=HB.out.trans (b4.mono HB.out.size);clear TX CC HB;go_wp2;go_roundw;case rel=>exact ⟨j+1,us2,by omega,by rw [HNX.out];exact TX4,HB4,by go_num⟩
          case measure=>simp [intOf];omega
        · have CC:=qW6 _ ps j wr pvr hps;rw [decide_eq_false hin] at CC;have HNI:=hQ9 hin;clear hin pvr hps
          go_wp2_with fail
          refine CC.mono ?_;rintro e w4 ⟨rfl,b4⟩;have TX4:=TX.bQ b4;have HB4:Hid (Below w3.heap.size w3 w4):=HB.out.trans (b4.mono HB.out.size);clear TX CC HB b4;go_wp2_with fail
          refine (jE7 (C:Int) (j:Int) C j w4 rfl rfl hC2 hlt).mono ?_;rintro e w5 ⟨gv,rfl,RN,hgv,b5⟩;rw [qT4] at RN |-;rw [<- jJ7 T' ps hlt] at RN;have HGV:=hQ9 hgv;have HB5:=hQ9 b5;clear hgv b5;go_wp2
          go_loopw [44] (fun v44 wr => ∃ k:Nat,k<=ps.length/\zD2 wr gv C (nvR T' ps C j k)/\Hid (Below w4.heap.size w4 wr)/\v44=.int .i64 (k:Int)) (fun v44 _=>ps.length-(intOf v44).toNat)
          case atStart=>exact ⟨0,by omega,RN,HB5.out,rfl⟩
          case round =>
            clear RN HB5;obtain ⟨k,hk,RN,HB6,rfl⟩:=hrel;by_cases hkl:k<ps.length
            · obtain ⟨wo,hwo⟩:∃ wo,wo=wr:=⟨_,rfl⟩;subst hwo;have b36:Hid (Below w3.heap.size w3 wo):=HB4.out.trans (HB6.out.mono HB4.out.size);obtain ⟨A,c,e,hA⟩:=pv3.bQ b36.out;injection e with e1 _ e3;subst e1;subst e3;obtain ⟨adp,rfl,kp⟩:=hA k hkl;obtain ⟨x,hx⟩:∃ x,x=pv ps k:=⟨_,rfl⟩;rw [<- hx] at kp;have hxC:x<C:=by rw [hx];exact HK.out.ech.lt k hkl
              have HX:=hQ9 hx;obtain ⟨r,hr,hrl,hq⟩:=zR8 HK.out.sh (show k<n by omega) hlt;obtain ⟨q,hqe⟩:∃ q,q=zB6 T' k j:=⟨_,rfl⟩;rw [<- hqe] at hq;have HQE:=hQ9 hqe
              have hLQ:Hid (zC2 q 100000):=by
                obtain ⟨S',h1,h2⟩:=HK.out.len;have h3:=h1.len r (zA5 hr) q (zA5 hq);refine h3.mono ?_;have h4:=hc.out.2.2.2.2.2;rw [<- HNC.out.1] at h4;have h5:(S+1)*2^(min ps.length (n-1))*2^(ps.length-1)<=(S+1)*2^(n-1)*2^(n-1):=bY6 (qI2 (Nat.min_le_right _ _)) (bX9 (by omega) (by omega));have h6:=zB2 h2 (zB2 h5 h4);omega
              obtain ⟨Ar,cr,hur,ecr,sr⟩:=(tT3.bQ b36.out).at_ hr;obtain ⟨gr,or,uq,tq,rfl,hia,k0,k1,k2,sq,dq⟩:=sr.at_ hq;obtain ⟨Aq,cq,rfl,_⟩:=id sq;obtain ⟨Dq,eq,rfl,_⟩:=id dq;have hix:=fun w=>zG6 (P:=prog) underlying44 (by kernel_rfl) (g:=gr) (o:=or) (c:=cr) hia w;have hiv:=fun w=>yI8 (P:=prog) underlying44 (by kernel_rfl) (g:=gv) (c:=C) hxC w;have kq:IsQ wo (.agg #[.bool (ngB q.num),.slice Aq (digs 4294967296 q.num.natAbs).length cq,.slice Dq (digs 4294967296 q.den).length eq]) q:=⟨_,_,rfl,sq,dq⟩;obtain ⟨M,hM⟩:∃ M,M = -q:=⟨_,rfl⟩;have CN:∀ w a,IsQ w a q->Calls prog 126 #[a] w (RetQ M w):=fun w a h=>by rw [hM];exact qT a q w h hLQ.out
              have HM2:=hQ9 hM;have hkn:k<n:=by omega
              clear hM hx hqe hr hq hA sr hrl hur;go_wp2_with fail
              refine (CN _ _ kq).mono ?_;rintro e w7 ⟨v7,rfl,k7,-,b7⟩;obtain ⟨u7,t7,rfl,s7,d7⟩:=k7;obtain ⟨A7,c7,rfl,_⟩:=id s7;obtain ⟨D7,e7,rfl,_⟩:=id d7;have RN7:=RN.bQ b7;obtain ⟨p5,q5,t5,P0,P1,P2,F0,F1,F2⟩:=RN7.place hxC;obtain ⟨G8,-,R8⟩:=yI7 RN7 hxC s7 d7;have HR8:=hQ9 (R8 (by rw [zS1];exact hxC))
              have HSE:Hid ((nvR T' ps C j k).set x M=nvR T' ps C j (k+1)):=by
                show _=_
                rw [HX.out,HM2.out,HQE.out];exact jJ8 HK.out.ech hkl HNI.out
              have bb7:=HB6.out.trans (b7.mono HB6.out.size);have bb8:Hid (Below w4.heap.size w4 _):=bb7.grown G8 bb7.size (fun q e=>by injection e with e;have:=HGV.out;omega);clear R8 G8 RN RN7 s7 d7 kq sq dq k0 k1 k2 ecr hix b7 bb7;go_wp2;go_roundw;case rel=>exact ⟨k+1,by omega,by rw [<- HSE.out];exact HR8.out,bb8,by go_num⟩
              case measure=>simp [intOf];omega
            · obtain rfl:k=ps.length:=by omega
              obtain ⟨wo,hwo⟩:∃ wo,wo=wr:=⟨_,rfl⟩;subst hwo;have sv:=RN.sl (zS1 _ _ _ _ _) (by omega);have TX6:=TX4.bQ HB6.out;have b36:Hid (Below w3.heap.size w3 wo):=HB4.out.trans (HB6.out.mono HB4.out.size);have ba:=zC6 (w:=wo) (zB1 _) (.cells #[.slice (some ⟨gv,0,none⟩) C C] 44);have TX7:=TX6.bQ ba;have sv7:=sv.bQ ba;have hone:=cell_one_new wo (.slice (some ⟨gv,0,none⟩) C C) 44;have hb3:w3.heap.size<=(wo.alloc (.cells #[.slice (some ⟨gv,0,none⟩) C C] 44)).heap.size:=zB2 b36.out.size ba.size
              have hlu:us2.length+1<=1000000000:=by
                have h1:=TX7.len
                have h2:(nvT T' ps C j).length<=j:=by
                  unfold nvT frs;rw [zA9];exact zB2 (List.length_filter_le _ _) (by simp)
                omega
              have HNX:Hid (nvT T' ps C (j+1)=nvT T' ps C j ++ [nvR T' ps C j ps.length]):=nvT_out HNI.out;have b37:Hid (Below w3.heap.size w3 _):=b36.out.trans (ba.mono b36.out.size);clear TX4 TX6 RN sv ba HB6 b36
              go_wp2_with (at_builtin;refine yL0 rfl (.tmp 61) (.tmp 63) rfl underlying22 qH6 rfl TX7.row rfl rfl (by decide) hone (fun u hu=>by (obtain rfl:=List.mem_singleton.1 hu;exact ⟨_,_,_,rfl⟩)) hlu hb3 ?_;intro v12 w12 RX12 HG12 HX12)
              have TX12:=TX7.snoc RX12 HG12.out sv7;have HB12:Hid (Below w3.heap.size w3 w12):=b37.out.grown HG12.out b37.out.size (fun g hg=>TX7.row.1.base_le g hg);clear TX7 RX12 sv7 hone;go_wp2;go_roundw;case rel=>exact ⟨j+1,_,by omega,by rw [HNX.out];exact TX12,HB12,by go_num⟩
              case measure=>simp [intOf];omega
      · obtain rfl:j=C:=by omega
        have HV:=hQ9 TX.slT;have b3r:=hQ9 (bb3.trans (HB.out.mono bb3.size));clear TX HB;go_wp2;go_ret2;exact .inl ⟨HM.out,by rw [<- HNC.out.1,<- HNC.out.2];exact ⟨_,T',ps,rfl,HV.out,HK.out,b3r.out⟩⟩
  · have HN:=hQ9 hm;clear hm;go_wp2;go_ret2;exact .inr ⟨HN.out,rfl,b2⟩
end rat
namespace rat
open Go.RowKit num mem nat txt str flow whl
section
variable {P:Program}
end
theorem zH1.under {e:TypeId} {w:World} {base:Nat} {v:Value} {ps:List (Int × Value)} (h:zH1 e w base v ps):∀ g,v.ownBlock=some g->base<=g/\g<w.heap.size:=fun g hg=>World.ownsRow.lt h.1 g hg
theorem zH1.slice {e:TypeId} {w:World} {base:Nat} {v:Value} {ps:List (Int × Value)} (h:zH1 e w base v ps):∃ A c,v=.slice A ps.length c:=by
 rcases h.1.2 with ⟨e1,h0⟩|⟨g,cap,cur,e1,_⟩
 ·exact ⟨none,0,by rw [e1,h0]⟩
 ·exact ⟨_,_,e1⟩
theorem zH1.bel {e:TypeId} {w w':World} {base:Nat} {v:Value} {ps:List (Int × Value)} (h:zH1 e w base v ps) (hg:w.grownBy w' v.ownBlock) (hb:base<=w.heap.size):Below base w w':=(Below.refl base w).grown hg hb (fun g e=>(h.under g e).1)
theorem zH1.keepS {e:TypeId} {w w':World} {base:Nat} {V:Value} {ps:List (Int × Value)} {k:IntKind} {v:Value} {l:List Nat} (h:zH1 e w base V ps) (hg:w.grownBy w' V.ownBlock) (hs:IsS w k v l):IsS w' k v l:=by
  cases ho:V.ownBlock with
  | none=>rw [ho] at hg;exact hs.bQ ⟨hg.os,hg.tape,hg.output,hg.size,fun k hk=>hg.block k hk (by simp)⟩
  | some g =>
    rw [ho] at hg;obtain ⟨cs,h1,h2⟩:=h.2 g ho;exact flow.off hs h1 (fun c hc n=>by rcases h2 c hc with ⟨b,rfl⟩|⟨A,m,d,rfl⟩<;>simp) hg
end rat
end Go.Proofs.YtagaabooccnamaaGreat
