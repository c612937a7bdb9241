/- Tables: rows of rows of fractions, as they come in, as a call makes them by append, or by make. Condition: as each says.
Package rat: its own contracts, each said of fractions: Inv, Mul, Div. Condition: as each says.
Package rat: its own contracts, each said of fractions: Add, Sub, Cmp. Condition: as each says.
Package rat: its own contracts, each said of fractions: Make, Of, Frac. Condition: as each says.
Package rat: its own contracts, each said of fractions: Same, One, May. Condition: as each says.
Rows of fractions that the call makes at their full length: one block, written element by element; calls through a function's value. Condition: as each says.
Rows that a call makes, and hands on: words for its end. Condition: as each says.
Tables that a call makes at their full length: one block of slices, written place by place; rows of the call's own that grow within such a table. Condition: as each says.
Rows of tables, as a variadic call takes them: written out in a region; read. Condition: as each says.
Package vect: noughts, Zero, Unit. Condition: as each says.
Package vect: vanishes, Scale, Dot, Lead. Condition: as each says.
Package vect: own, EqualFunc, Less, Same, Greatest. Condition: as each says. -/
import Derived.Test.YtagaabooccnamaaGreatKA3
set_option linter.unusedVariables false
set_option linter.unusedSimpArgs false
set_option maxRecDepth 100000
set_option maxHeartbeats 3200000
open And renaming intro -> zA
open List renaming setIfInBounds_toArray -> zA0, set_cons_succ -> zA1, set_cons_zero -> zA2, getElem?_eq_getElem -> zA3, getElem?_eq_some_iff -> zA4, mem_of_getElem? -> zA5, take_of_length_le -> zA7, length_append -> zA8, length_map -> zA9, replicate -> zB, getElem?_append_left -> zB0, getElem?_map -> zB1, length_set -> zB2
open Nat renaming le_refl -> zB3, le_trans -> zB4
namespace Go.Proofs.YtagaabooccnamaaGreat.rat
open Go.RowKit num mem nat txt str flow whl
def SlT (k : IntKind) (B : Nat) (w : World) (v : Value) (t : List (List Rat)) : Prop:=∃ us : List Value,us.length = t.length /\ (∃ A c,v = .slice A us.length c /\ us.length <= c /\ c <= maxLen /\ ∀ (i : Nat) (u : Value),us[i]? = some u -> ∃ ad,A = some ad /\ w.cell? (ad.add i) = some u) /\ ∀ (i : Nat) (u : Value) (r : List Rat),us[i]? = some u -> t[i]? = some r -> SlF k B w u r
theorem SlT.below {k : IntKind} {B : Nat} {w w' : World} {v : Value} {t : List (List Rat)} (h : SlT k B w v t) (hb : Below w.heap.size w w') : SlT k B w' v t:=by
 obtain ⟨us,h1,⟨A,c,e,h2,h3,h4⟩,h5⟩:=h
 refine ⟨us,h1,⟨A,c,e,h2,h3,fun i u hu => ?_⟩,fun i u r hu hr => (h5 i u r hu hr).below hb⟩
 obtain ⟨ad,ha,hc⟩:=h4 i u hu
 exact ⟨ad,ha,(hb.cell (World.block_lt_of_cell? w _ hc)).trans hc⟩
theorem SlT.shape {k : IntKind} {B : Nat} {w : World} {v : Value} {t : List (List Rat)} (h : SlT k B w v t) : ∃ A c,v = .slice A t.length c /\ t.length <= c /\ c <= maxLen:=by
 obtain ⟨us,h1,⟨A,c,e,h2,h3,_⟩,_⟩:=h
 exact ⟨A,c,by rw [e,h1],by omega,h3⟩
theorem SlT.at_ {k : IntKind} {B : Nat} {w : World} {A : Option Addr} {n c i : Nat} {t : List (List Rat)} {r : List Rat} (h : SlT k B w (.slice A n c) t) (hr : t[i]? = some r) : ∃ ad Ar cr,A = some ad /\ i < n /\ w.cell? (ad.add i) = some (.slice Ar r.length cr) /\ SlF k B w (.slice Ar r.length cr) r:=by
 obtain ⟨us,h1,⟨A',c',e,h2,h3,h4⟩,h5⟩:=h
 injection e with e1 e2 e3
 subst e1; subst e2; subst e3
 have hi : i < us.length:=by have:=(zA4.1 hr).1; omega
 obtain ⟨ad,ha,hc⟩:=h4 i _ (zA3 hi)
 have hs:=h5 i _ r (zA3 hi) hr
 obtain ⟨Ar,cr,e,_,_⟩:=hs.shape
 rw [e] at hc hs
 exact ⟨ad,Ar,cr,ha,hi,hc,hs⟩
theorem slT_nil (k : IntKind) (B : Nat) (w : World) : SlT k B w (.slice none 0 0) []:=⟨[],rfl,⟨none,0,rfl,by simp,by unfold maxLen; omega,fun i u hu => by simp at hu⟩,fun i u r hu => by simp at hu⟩
def qE5 (t : List (List Rat)) (n : Int) (w : World) (e : Ending) (w' : World) : Prop:=∃ V,e = .returned (.tuple #[V,.int .i64 n]) /\ SlT .u64 4294967296 w' V (if n = 0 then t else []) /\ Below w.heap.size w w'
/-! Tables that a call makes by append. -/
def zL7 (k : IntKind) (B : Nat) (w : World) (v u : Value) (r : List Rat) : Prop:=∃ ps : List Elt,ps.map (·.1) = r /\ zM2 w u ps /\ zG5 k B w v ps /\ ∀ g,u.ownBlock = some g -> g < w.heap.size /\ v.ownBlock ≠ some g
theorem zL7.sl {k : IntKind} {B : Nat} {w : World} {v u : Value} {r : List Rat} (h : zL7 k B w v u r) : SlF k B w u r:=by
 obtain ⟨ps,h1,h2,h3,_⟩:=h
 exact ⟨ps,h1,h2,fun p hp => (h3 p hp).1⟩
theorem zL7.below {k : IntKind} {B : Nat} {w w' : World} {v u : Value} {r : List Rat} (h : zL7 k B w v u r) (hb : Below w.heap.size w w') : zL7 k B w' v u r:=by
 obtain ⟨ps,h1,h2,h3,h4⟩:=h
 exact ⟨ps,h1,h2.below hb,h3.below hb,fun g hg => ⟨Nat.lt_of_lt_of_le (h4 g hg).1 hb.size,(h4 g hg).2⟩⟩
theorem zL7.keep {k : IntKind} {B : Nat} {w w' : World} {v v' u : Value} {r : List Rat} (h : zL7 k B w v u r) (hk : zI5 w w' v v') : zL7 k B w' v' u r:=by
 obtain ⟨ps,h1,⟨A,c,e,h2,h2',h2''⟩,h3,h4⟩:=h
 obtain ⟨k1,k2,k3⟩:=hk
 refine ⟨ps,h1,⟨A,c,e,h2,h2',fun i p hp => ?_⟩,h3.keep k1,fun g hg => ⟨Nat.lt_of_lt_of_le (h4 g hg).1 k2.size,k3 g (h4 g hg).1 (h4 g hg).2⟩⟩
 obtain ⟨g,o,rfl,c0,c1,c2⟩:=h2'' i p hp
 have hne : some g ≠ v.ownBlock:=fun e' => (h4 g (by rw [e]; rfl)).2 e'.symm
 exact ⟨g,o,rfl,k2.cell c0 hne,k2.cell c1 hne,k2.cell c2 hne⟩
theorem IsN.far {k : IntKind} {B : Nat} {w : World} {B0 : Nat} {v u : Value} {r : List Rat} (h : IsN k B w B0 u r) (hv : ∀ g,v.ownBlock = some g -> g < B0) : zL7 k B w v u r:=by
 obtain ⟨ps,h1,h2,h3,h4⟩:=h
 exact ⟨ps,h1,h2,fun p hp => ⟨(h3 p hp).1,(h3 p hp).2.1.far hv,(h3 p hp).2.2.far hv⟩,fun g hg => ⟨(h4 g hg).2,fun e => by have h5:=hv _ e; have h6:=(h4 g hg).1; omega⟩⟩
def qA6 (k : IntKind) (B : Nat) (w : World) (v : Value) (us : List Value) (t : List (List Rat)) : Prop:=us.length = t.length /\ ∀ (i : Nat) (u : Value) (r : List Rat),us[i]? = some u -> t[i]? = some r -> zL7 k B w v u r
theorem qA6.below {k : IntKind} {B : Nat} {w w' : World} {v : Value} {us : List Value} {t : List (List Rat)} (h : qA6 k B w v us t) (hb : Below w.heap.size w w') : qA6 k B w' v us t:=⟨h.1,fun i u r hu hr => (h.2 i u r hu hr).below hb⟩
theorem qA6.keep {k : IntKind} {B : Nat} {w w' : World} {v v' : Value} {us : List Value} {t : List (List Rat)} (h : qA6 k B w v us t) (hk : zI5 w w' v v') : qA6 k B w' v' us t:=⟨h.1,fun i u r hu hr => (h.2 i u r hu hr).keep hk⟩
end Go.Proofs.YtagaabooccnamaaGreat.rat
namespace Go.Proofs.YtagaabooccnamaaGreat.flow
open Go.RowKit num mem whl rat
section
variable {P : Program} {Q : Exit -> Act -> World -> Prop} {ops : Array Oper} {L : List Oper} {Φ : List Pd} {w0 : World} {a0 : Act} {i : Nat} {o : Oper}
end
end Go.Proofs.YtagaabooccnamaaGreat.flow
namespace Go.Proofs.YtagaabooccnamaaGreat.rat
open Go.RowKit num mem nat txt str flow whl
theorem inv8_ok (a0 : Value) (x : Rat) (w : World) (h0 : IsQ w a0 x) (hl : zC7 x 1000000) (hy : x ≠ 0) :
  Calls Tryz.prog 128 #[a0] w (zT1 x⁻¹ 0 w):=by
 rcases Int.lt_or_gt_of_ne (fun e => hy (Rat.num_eq_zero.1 e) : x.num ≠ 0) with hlt | hlt
 ·obtain ⟨u0,t0,rfl,s0,r0⟩:=h0
  obtain ⟨A0,c0,rfl,_⟩:=id s0
  obtain ⟨D0,e0,rfl,_⟩:=id r0
  obtain ⟨Q,hQ⟩ : ∃ Q,Q = x⁻¹:=⟨_,rfl⟩
  have HQ0 : Hid (x⁻¹ = Q):=hQ.symm
  have HQN : Hid (Q.num = sg (ngB x.num) x.den):=by show _ = _; rw [hQ,(zZ5 hy).1]
  have HQD : Hid (x.num.natAbs = Q.den):=by show _ = _; rw [hQ,(zZ5 hy).2]
  have HS : Hid (((-1) : Int) = zJ5 x.num 0):=(qC7 hlt).symm
  clear hQ
  go_enter Tryz.func128,Tryz.ntmps128
  go_upto_region 1 with (fail)
  obtain ⟨wx,hwx,bb,B0,BR0,hsz⟩:=zI8 w 83 83 #[.bool (ngB (x).num),.slice A0 (digs 4294967296 (x).num.natAbs).length c0,.slice D0 (digs 4294967296 (x).den).length e0] #[.bool false,.slice none 0 0,.slice none 0 0]
  rw [hwx]
  clear hwx
  have k0s:=s0.below bb
  have k0d:=r0.below bb
  have k0z : IsZ wx (.agg #[.bool (ngB (x).num),.slice A0 (digs 4294967296 (x).num.natAbs).length c0]) (x).num:=⟨_,rfl,k0s⟩
  have k0 : IsQ wx (.agg #[.bool (ngB (x).num),.slice A0 (digs 4294967296 (x).num.natAbs).length c0,.slice D0 (digs 4294967296 (x).den).length e0]) (x):=⟨_,_,rfl,k0s,k0d⟩
  have hsz0:=bb.size
  have sB:=bb.size
  refine zC9 3 [Pd.eq (.agg #[.bool (ngB (x).num),.slice A0 (digs 4294967296 (x).num.natAbs).length c0,.slice D0 (digs 4294967296 (x).den).length e0]),Pd.eq (.int .i64 (-1)),Pd.eq (.bool false)] (by kernel_rfl) ?ob24 ?done24
  case ob24 =>
   refine zA (zC rfl (zB6 rfl) (zB8 rfl rfl) (fun w2 hb => zF8 Tryz.underlying83 rfl (by kernel_rfl) (B0.below hb)) (fun _ _ => rfl)) ?_
   refine zA (zF rfl Tryz.func133 (by kernel_rfl) (zB6 rfl) (zB7 (j:=0) (by kernel_rfl) rfl rfl) (fun w2 u0 hb h0 => by obtain rfl:=h0; exact (zT2 _ x (-1) _ (k0.below hb) HS.out).mono fun e w3 h => zD8.pd h)) ?_
   refine zA (zG4 rfl (zB6 rfl) (zB7 (j:=1) (by kernel_rfl) rfl rfl) (zH7 _) (fun _ _ _ hx hy => ⟨.bool ((-1 : Int) == 0),by rw [hx,hy]; exact zP6 _ _ _ _ _,congrArg Value.bool (by decide)⟩)) ?_
   trivial
  case done24 =>
   refine fun w1 hb1 v0 h0 v1 h1 v2 h2 b hbf => ?_
   obtain rfl:=h0; obtain rfl:=h1; obtain rfl:=h2
   simp only [Act.put,zA0,zA2,zA1] at hbf
   subst hbf
   replace B0:=B0.below hb1
   replace k0s:=k0s.below hb1
   replace k0d:=k0d.below hb1
   replace k0z:=k0z.below hb1
   replace k0:=k0.below hb1
   replace BR0:=BR0.below hb1
   replace bb:=bb.trans (hb1.mono bb.size)
   have hsz1:=bb.size
   refine zD ?_
   have sB:=bb.size
   go_upto_region 3 with (fail)
   refine flow 11 [Pd.eq (.pointer (some ⟨w.heap.size,0,none⟩)),Pd.eq (.pointer (some ⟨w.heap.size,0,none⟩)),Pd.eq (.bool (ngB (x).num)),Pd.eq (.pointer (some ⟨w.heap.size,2,none⟩)),Pd.eq (.slice D0 (digs 4294967296 (x).den).length e0),pz ((Q).num) w1.heap.size,Pd.eq (.pointer (some ⟨w.heap.size,0,none⟩)),Pd.eq (.pointer (some ⟨w.heap.size,1,none⟩)),Pd.eq (.slice A0 (digs 4294967296 (x).num.natAbs).length c0),ps .u64 (digs 4294967296 (Q).den) w1.heap.size,pq (Q) w1.heap.size] (by kernel_rfl) (by kernel_rfl) ?ob25 ?done25
   case ob25 =>
    refine zA (zC3 rfl (zB6 rfl) (zB8 rfl rfl) (fun _ => by kernel_rfl) (fun _ => rfl)) ?_
    refine zA (zC3 rfl (zB6 rfl) (zB7 (j:=0) (by kernel_rfl) rfl rfl) (fun _ => by kernel_rfl) (fun _ => rfl)) ?_
    refine zA (zC rfl (zB6 rfl) (zB7 (j:=1) (by kernel_rfl) rfl rfl) (fun w2 hb => zC5 Tryz.underlying4 rfl ((B0.drew.below hb).cell 0)) (fun _ _ => rfl)) ?_
    refine zA (zC3 rfl (zB6 rfl) (zB8 rfl rfl) (fun _ => by kernel_rfl) (fun _ => rfl)) ?_
    refine zA (zC rfl (zB6 rfl) (zB7 (j:=3) (by kernel_rfl) rfl rfl) (fun w2 hb => zC5 Tryz.underlying50 rfl ((B0.drew.below hb).cell 2)) (fun _ _ => rfl)) ?_
    refine zA (zD4 rfl Tryz.func57 (by kernel_rfl) (zB6 rfl) (zB7 (j:=2) (by kernel_rfl) rfl rfl) (zB7 (j:=4) (by kernel_rfl) rfl rfl) (fun w2 u0 u1 hb h0 h1 => by obtain rfl:=h0; obtain rfl:=h1; exact (made_any _ _ x.den (Q).num _ (k0d.drew.below hb) (zB4 hl.2 (by decide)) HQN.out).mono fun e w3 h => zE2.pd h hb.size)) ?_
    refine zA (zC3 rfl (zB6 rfl) (zB8 rfl rfl) (fun _ => by kernel_rfl) (fun _ => rfl)) ?_
    refine zA (zC3 rfl (zB6 rfl) (zB7 (j:=6) (by kernel_rfl) rfl rfl) (fun _ => by kernel_rfl) (fun _ => rfl)) ?_
    refine zA (zC rfl (zB6 rfl) (zB7 (j:=7) (by kernel_rfl) rfl rfl) (fun w2 hb => zC5 Tryz.underlying50 rfl ((B0.drew.below hb).cell 1)) (fun _ _ => rfl)) ?_
    refine zA (zF rfl Tryz.func106 (by kernel_rfl) (zB6 rfl) (zB7 (j:=8) (by kernel_rfl) rfl rfl) (fun w2 u0 hb h0 => by obtain rfl:=h0; exact (zU _ _ _ (k0s.drew.below hb) (zB4 hl.1 (by decide))).mono fun e w3 h => zD1.pd (zD1.to h (congrArg (digs 4294967296) HQD.out)) hb.size)) ?_
    refine zA (zL3 rfl (zB6 rfl) (zB7 (j:=5) (by kernel_rfl) rfl rfl) (zB7 (j:=9) (by kernel_rfl) rfl rfl) (fun w2 u v hb hu hv => by obtain ⟨u7,rfl,hu7⟩:=hu.1; obtain ⟨A7,c7,rfl,_⟩:=id hu7; obtain ⟨A8,c8,rfl,_⟩:=id hv.1; exact ⟨.agg #[.bool (ngB (Q).num),.slice A7 (digs 4294967296 (Q).num.natAbs).length c7,.slice A8 (digs 4294967296 (Q).den).length c8],by kernel_rfl,⟨⟨_,_,rfl,hu7,hv.1⟩,zL2 (hu.2 _ _ rfl) hv.2⟩⟩)) ?_
    trivial
   case done25 =>
    refine fun w2 hb2 v0 h0 v1 h1 v2 h2 v3 h3 v4 h4 v5 h5 v6 h6 v7 h7 v8 h8 v9 h9 v10 h10 b hbf => ?_
    obtain rfl:=h0; obtain rfl:=h1; obtain rfl:=h2; obtain rfl:=h3; obtain rfl:=h4; obtain rfl:=h6; obtain rfl:=h7; obtain rfl:=h8
    obtain ⟨q5,f5⟩:=h5
    obtain ⟨q9,f9⟩:=h9
    obtain ⟨q10,f10⟩:=h10
    simp only [Act.put,zA0,zA2,zA1] at hbf
    subst hbf
    replace B0:=B0.below hb2
    replace k0s:=k0s.below hb2
    replace k0d:=k0d.below hb2
    replace k0z:=k0z.below hb2
    replace k0:=k0.below hb2
    replace BR0:=BR0.below hb2
    replace bb:=bb.trans (hb2.mono bb.size)
    have hsz2:=bb.size
    have s_5:=sB
    have s_9:=sB
    have s_10:=sB
    obtain ⟨u10,t10,rfl,q10,d10⟩:=q10
    obtain ⟨A9,c9,rfl,_⟩:=id q10
    obtain ⟨D9,e9,rfl,_⟩:=id d10
    have fS:=(f10 _ _ _ rfl).1.mono s_10
    have fT:=(f10 _ _ _ rfl).2.mono s_10
    refine zK4 (i:=11) (by kernel_rfl) rfl rfl rfl rfl rfl rfl (cells:=[.bool (ngB (Q).num),.slice A9 (digs 4294967296 (Q).num.natAbs).length c9,.slice D9 (digs 4294967296 (Q).den).length e9]) rfl BR0 rfl (by kernel_rfl) (zI3 rfl rfl rfl) fun w9 hg9 B9 => ?_
    have k9:=off q10 BR0 zE hg9
    have d9:=off d10 BR0 zE hg9
    have bb9:=bb.trans ((Below.refl _ _).grown hg9 bb.size (fun g hg => by injection hg with hg; omega))
    obtain ⟨C0,C1,C2,_,_,_⟩:=three B9
    refine qH8 (i:=12) (.int .i64 0) (by kernel_rfl) rfl rfl rfl rfl rfl fun b hbf => ?_
    simp only [Act.put,zA0,zA2,zA1] at hbf
    subst hbf
    refine zI2 (by kernel_rfl) ?_
    go_wp2
    rw [HQ0.out]
    exact bodyPost_ret (v:=.tuple #[.agg #[.bool (ngB (Q).num),.slice A9 (digs 4294967296 (Q).num.natAbs).length c9,.slice D9 (digs 4294967296 (Q).den).length e9],.int .i64 0]) (by simp [results,Tryz.results128,go_sem,C0,C1,C2]) rfl ⟨_,rfl,zU7 k9 d9 rfl rfl rfl,zL2 fS fT,bb9⟩
 ·obtain ⟨u0,t0,rfl,s0,r0⟩:=h0
  obtain ⟨A0,c0,rfl,_⟩:=id s0
  obtain ⟨D0,e0,rfl,_⟩:=id r0
  obtain ⟨Q,hQ⟩ : ∃ Q,Q = x⁻¹:=⟨_,rfl⟩
  have HQ0 : Hid (x⁻¹ = Q):=hQ.symm
  have HQN : Hid (Q.num = sg (ngB x.num) x.den):=by show _ = _; rw [hQ,(zZ5 hy).1]
  have HQD : Hid (x.num.natAbs = Q.den):=by show _ = _; rw [hQ,(zZ5 hy).2]
  have HS : Hid ((1 : Int) = zJ5 x.num 0):=(qC8 hlt).symm
  clear hQ
  go_enter Tryz.func128,Tryz.ntmps128
  go_upto_region 1 with (fail)
  obtain ⟨wx,hwx,bb,B0,BR0,hsz⟩:=zI8 w 83 83 #[.bool (ngB (x).num),.slice A0 (digs 4294967296 (x).num.natAbs).length c0,.slice D0 (digs 4294967296 (x).den).length e0] #[.bool false,.slice none 0 0,.slice none 0 0]
  rw [hwx]
  clear hwx
  have k0s:=s0.below bb
  have k0d:=r0.below bb
  have k0z : IsZ wx (.agg #[.bool (ngB (x).num),.slice A0 (digs 4294967296 (x).num.natAbs).length c0]) (x).num:=⟨_,rfl,k0s⟩
  have k0 : IsQ wx (.agg #[.bool (ngB (x).num),.slice A0 (digs 4294967296 (x).num.natAbs).length c0,.slice D0 (digs 4294967296 (x).den).length e0]) (x):=⟨_,_,rfl,k0s,k0d⟩
  have hsz0:=bb.size
  have sB:=bb.size
  refine zC9 3 [Pd.eq (.agg #[.bool (ngB (x).num),.slice A0 (digs 4294967296 (x).num.natAbs).length c0,.slice D0 (digs 4294967296 (x).den).length e0]),Pd.eq (.int .i64 1),Pd.eq (.bool false)] (by kernel_rfl) ?ob26 ?done26
  case ob26 =>
   refine zA (zC rfl (zB6 rfl) (zB8 rfl rfl) (fun w2 hb => zF8 Tryz.underlying83 rfl (by kernel_rfl) (B0.below hb)) (fun _ _ => rfl)) ?_
   refine zA (zF rfl Tryz.func133 (by kernel_rfl) (zB6 rfl) (zB7 (j:=0) (by kernel_rfl) rfl rfl) (fun w2 u0 hb h0 => by obtain rfl:=h0; exact (zT2 _ x 1 _ (k0.below hb) HS.out).mono fun e w3 h => zD8.pd h)) ?_
   refine zA (zG4 rfl (zB6 rfl) (zB7 (j:=1) (by kernel_rfl) rfl rfl) (zH7 _) (fun _ _ _ hx hy => ⟨.bool ((1 : Int) == 0),by rw [hx,hy]; exact zP6 _ _ _ _ _,congrArg Value.bool (by decide)⟩)) ?_
   trivial
  case done26 =>
   refine fun w1 hb1 v0 h0 v1 h1 v2 h2 b hbf => ?_
   obtain rfl:=h0; obtain rfl:=h1; obtain rfl:=h2
   simp only [Act.put,zA0,zA2,zA1] at hbf
   subst hbf
   replace B0:=B0.below hb1
   replace k0s:=k0s.below hb1
   replace k0d:=k0d.below hb1
   replace k0z:=k0z.below hb1
   replace k0:=k0.below hb1
   replace BR0:=BR0.below hb1
   replace bb:=bb.trans (hb1.mono bb.size)
   have hsz1:=bb.size
   refine zD ?_
   have sB:=bb.size
   go_upto_region 3 with (fail)
   refine flow 11 [Pd.eq (.pointer (some ⟨w.heap.size,0,none⟩)),Pd.eq (.pointer (some ⟨w.heap.size,0,none⟩)),Pd.eq (.bool (ngB (x).num)),Pd.eq (.pointer (some ⟨w.heap.size,2,none⟩)),Pd.eq (.slice D0 (digs 4294967296 (x).den).length e0),pz ((Q).num) w1.heap.size,Pd.eq (.pointer (some ⟨w.heap.size,0,none⟩)),Pd.eq (.pointer (some ⟨w.heap.size,1,none⟩)),Pd.eq (.slice A0 (digs 4294967296 (x).num.natAbs).length c0),ps .u64 (digs 4294967296 (Q).den) w1.heap.size,pq (Q) w1.heap.size] (by kernel_rfl) (by kernel_rfl) ?ob27 ?done27
   case ob27 =>
    refine zA (zC3 rfl (zB6 rfl) (zB8 rfl rfl) (fun _ => by kernel_rfl) (fun _ => rfl)) ?_
    refine zA (zC3 rfl (zB6 rfl) (zB7 (j:=0) (by kernel_rfl) rfl rfl) (fun _ => by kernel_rfl) (fun _ => rfl)) ?_
    refine zA (zC rfl (zB6 rfl) (zB7 (j:=1) (by kernel_rfl) rfl rfl) (fun w2 hb => zC5 Tryz.underlying4 rfl ((B0.drew.below hb).cell 0)) (fun _ _ => rfl)) ?_
    refine zA (zC3 rfl (zB6 rfl) (zB8 rfl rfl) (fun _ => by kernel_rfl) (fun _ => rfl)) ?_
    refine zA (zC rfl (zB6 rfl) (zB7 (j:=3) (by kernel_rfl) rfl rfl) (fun w2 hb => zC5 Tryz.underlying50 rfl ((B0.drew.below hb).cell 2)) (fun _ _ => rfl)) ?_
    refine zA (zD4 rfl Tryz.func57 (by kernel_rfl) (zB6 rfl) (zB7 (j:=2) (by kernel_rfl) rfl rfl) (zB7 (j:=4) (by kernel_rfl) rfl rfl) (fun w2 u0 u1 hb h0 h1 => by obtain rfl:=h0; obtain rfl:=h1; exact (made_any _ _ x.den (Q).num _ (k0d.drew.below hb) (zB4 hl.2 (by decide)) HQN.out).mono fun e w3 h => zE2.pd h hb.size)) ?_
    refine zA (zC3 rfl (zB6 rfl) (zB8 rfl rfl) (fun _ => by kernel_rfl) (fun _ => rfl)) ?_
    refine zA (zC3 rfl (zB6 rfl) (zB7 (j:=6) (by kernel_rfl) rfl rfl) (fun _ => by kernel_rfl) (fun _ => rfl)) ?_
    refine zA (zC rfl (zB6 rfl) (zB7 (j:=7) (by kernel_rfl) rfl rfl) (fun w2 hb => zC5 Tryz.underlying50 rfl ((B0.drew.below hb).cell 1)) (fun _ _ => rfl)) ?_
    refine zA (zF rfl Tryz.func106 (by kernel_rfl) (zB6 rfl) (zB7 (j:=8) (by kernel_rfl) rfl rfl) (fun w2 u0 hb h0 => by obtain rfl:=h0; exact (zU _ _ _ (k0s.drew.below hb) (zB4 hl.1 (by decide))).mono fun e w3 h => zD1.pd (zD1.to h (congrArg (digs 4294967296) HQD.out)) hb.size)) ?_
    refine zA (zL3 rfl (zB6 rfl) (zB7 (j:=5) (by kernel_rfl) rfl rfl) (zB7 (j:=9) (by kernel_rfl) rfl rfl) (fun w2 u v hb hu hv => by obtain ⟨u7,rfl,hu7⟩:=hu.1; obtain ⟨A7,c7,rfl,_⟩:=id hu7; obtain ⟨A8,c8,rfl,_⟩:=id hv.1; exact ⟨.agg #[.bool (ngB (Q).num),.slice A7 (digs 4294967296 (Q).num.natAbs).length c7,.slice A8 (digs 4294967296 (Q).den).length c8],by kernel_rfl,⟨⟨_,_,rfl,hu7,hv.1⟩,zL2 (hu.2 _ _ rfl) hv.2⟩⟩)) ?_
    trivial
   case done27 =>
    refine fun w2 hb2 v0 h0 v1 h1 v2 h2 v3 h3 v4 h4 v5 h5 v6 h6 v7 h7 v8 h8 v9 h9 v10 h10 b hbf => ?_
    obtain rfl:=h0; obtain rfl:=h1; obtain rfl:=h2; obtain rfl:=h3; obtain rfl:=h4; obtain rfl:=h6; obtain rfl:=h7; obtain rfl:=h8
    obtain ⟨q5,f5⟩:=h5
    obtain ⟨q9,f9⟩:=h9
    obtain ⟨q10,f10⟩:=h10
    simp only [Act.put,zA0,zA2,zA1] at hbf
    subst hbf
    replace B0:=B0.below hb2
    replace k0s:=k0s.below hb2
    replace k0d:=k0d.below hb2
    replace k0z:=k0z.below hb2
    replace k0:=k0.below hb2
    replace BR0:=BR0.below hb2
    replace bb:=bb.trans (hb2.mono bb.size)
    have hsz2:=bb.size
    have s_5:=sB
    have s_9:=sB
    have s_10:=sB
    obtain ⟨u10,t10,rfl,q10,d10⟩:=q10
    obtain ⟨A9,c9,rfl,_⟩:=id q10
    obtain ⟨D9,e9,rfl,_⟩:=id d10
    have fS:=(f10 _ _ _ rfl).1.mono s_10
    have fT:=(f10 _ _ _ rfl).2.mono s_10
    refine zK4 (i:=11) (by kernel_rfl) rfl rfl rfl rfl rfl rfl (cells:=[.bool (ngB (Q).num),.slice A9 (digs 4294967296 (Q).num.natAbs).length c9,.slice D9 (digs 4294967296 (Q).den).length e9]) rfl BR0 rfl (by kernel_rfl) (zI3 rfl rfl rfl) fun w9 hg9 B9 => ?_
    have k9:=off q10 BR0 zE hg9
    have d9:=off d10 BR0 zE hg9
    have bb9:=bb.trans ((Below.refl _ _).grown hg9 bb.size (fun g hg => by injection hg with hg; omega))
    obtain ⟨C0,C1,C2,_,_,_⟩:=three B9
    refine qH8 (i:=12) (.int .i64 0) (by kernel_rfl) rfl rfl rfl rfl rfl fun b hbf => ?_
    simp only [Act.put,zA0,zA2,zA1] at hbf
    subst hbf
    refine zI2 (by kernel_rfl) ?_
    go_wp2
    rw [HQ0.out]
    exact bodyPost_ret (v:=.tuple #[.agg #[.bool (ngB (Q).num),.slice A9 (digs 4294967296 (Q).num.natAbs).length c9,.slice D9 (digs 4294967296 (Q).den).length e9],.int .i64 0]) (by simp [results,Tryz.results128,go_sem,C0,C1,C2]) rfl ⟨_,rfl,zU7 k9 d9 rfl rfl rfl,zL2 fS fT,bb9⟩
theorem qQ8 (a0 : Value) (x : Rat) (a1 : Value) (y : Rat) (w : World) (h0 : IsQ w a0 x) (h1 : IsQ w a1 y) (hl : zC7 x 10000) (hl2 : zC7 y 10000) :
  Calls Tryz.prog 127 #[a0,a1] w (RetQ (x * y) w):=by
 obtain ⟨u0,t0,rfl,s0,r0⟩:=h0
 obtain ⟨A0,c0,rfl,_⟩:=id s0
 obtain ⟨D0,e0,rfl,_⟩:=id r0
 obtain ⟨u1,t1,rfl,s1,r1⟩:=h1
 obtain ⟨A1,c1,rfl,_⟩:=id s1
 obtain ⟨D1,e1,rfl,_⟩:=id r1
 obtain ⟨U,hU⟩ : ∃ U,U = (mkRat x.num y.den).num:=⟨_,rfl⟩
 obtain ⟨L,hL⟩ : ∃ L,L = (mkRat x.num y.den).den:=⟨_,rfl⟩
 obtain ⟨V,hV⟩ : ∃ V,V = (mkRat y.num x.den).num:=⟨_,rfl⟩
 obtain ⟨M,hM⟩ : ∃ M,M = (mkRat y.num x.den).den:=⟨_,rfl⟩
 obtain ⟨Q,hQ⟩ : ∃ Q,Q = x * y:=⟨_,rfl⟩
 have HQ0 : Hid (x * y = Q):=hQ.symm
 have HP:=yU1 x y
 rw [<- hU,<- hL,<- hV,<- hM,<- hQ] at HP
 have HQN : Hid (U * V = (Q).num):=HP.1.symm
 have HQD : Hid (M * L = (Q).den):=HP.2.symm
 have lx1:=hl.1
 have lx2:=hl.2
 have ly1:=hl2.1
 have ly2:=hl2.2
 have HX : Hid (x.den ≠ 0):=x.den_nz
 have HY : Hid (y.den ≠ 0):=y.den_nz
 have lU : zC7 (mkRat x.num y.den) 10000:=zR HY.out lx1 ly2
 have lV : zC7 (mkRat y.num x.den) 10000:=zR HX.out ly1 lx2
 unfold zC7 at lU lV
 rw [<- hU,<- hL] at lU
 rw [<- hV,<- hM] at lV
 have HU:=Lib.hid hU
 have HL:=Lib.hid hL
 have HV:=Lib.hid hV
 have HM:=Lib.hid hM
 clear hU hL hV hM hQ HP
 go_enter Tryz.func127,Tryz.ntmps127
 go_upto_region 1 with (fail)
 obtain ⟨wx,hwx,bb,B0,B1,BR0,hsz⟩:=zN7 w 83 83 83 #[.bool (ngB (x).num),.slice A0 (digs 4294967296 (x).num.natAbs).length c0,.slice D0 (digs 4294967296 (x).den).length e0] #[.bool (ngB (y).num),.slice A1 (digs 4294967296 (y).num.natAbs).length c1,.slice D1 (digs 4294967296 (y).den).length e1] #[.bool false,.slice none 0 0,.slice none 0 0]
 rw [hwx]
 clear hwx
 have k0s:=s0.below bb
 have k0d:=r0.below bb
 have k0z : IsZ wx (.agg #[.bool (ngB (x).num),.slice A0 (digs 4294967296 (x).num.natAbs).length c0]) (x).num:=⟨_,rfl,k0s⟩
 have k0 : IsQ wx (.agg #[.bool (ngB (x).num),.slice A0 (digs 4294967296 (x).num.natAbs).length c0,.slice D0 (digs 4294967296 (x).den).length e0]) (x):=⟨_,_,rfl,k0s,k0d⟩
 have k1s:=s1.below bb
 have k1d:=r1.below bb
 have k1z : IsZ wx (.agg #[.bool (ngB (y).num),.slice A1 (digs 4294967296 (y).num.natAbs).length c1]) (y).num:=⟨_,rfl,k1s⟩
 have k1 : IsQ wx (.agg #[.bool (ngB (y).num),.slice A1 (digs 4294967296 (y).num.natAbs).length c1,.slice D1 (digs 4294967296 (y).den).length e1]) (y):=⟨_,_,rfl,k1s,k1d⟩
 have hsz0:=bb.size
 have sB:=bb.size
 have lt0_2:=Blk.lt B0
 have lt0_3:=Blk.lt B1
 have lt0_4:=Blk.lt BR0
 refine zC9 9 [Pd.eq (.pointer (some ⟨w.heap.size,0,none⟩)),Pd.eq (.agg #[.bool (ngB (x).num),.slice A0 (digs 4294967296 (x).num.natAbs).length c0]),Pd.eq (.pointer (some ⟨w.heap.size + 1,2,none⟩)),Pd.eq (.slice D1 (digs 4294967296 (y).den).length e1),pzs (U) (L) wx.heap.size,pzs (U) (L) wx.heap.size,pz (U) wx.heap.size,ps .u64 (digs 4294967296 L) wx.heap.size,pn 60 #[.bool false,.slice none 0 0] wx.heap.size] (by kernel_rfl) ?ob28 ?done28
 case ob28 =>
  refine zA (zC3 rfl (zB6 rfl) (zB8 rfl rfl) (fun _ => by kernel_rfl) (fun _ => rfl)) ?_
  refine zA (zC rfl (zB6 rfl) (zB7 (j:=0) (by kernel_rfl) rfl rfl) (fun w2 hb => zR0 Tryz.underlying60 rfl (by kernel_rfl) (B0.below hb) rfl) (fun _ _ => rfl)) ?_
  refine zA (zC3 rfl (zB6 rfl) (zB8 rfl rfl) (fun _ => by kernel_rfl) (fun _ => rfl)) ?_
  refine zA (zC rfl (zB6 rfl) (zB7 (j:=2) (by kernel_rfl) rfl rfl) (fun w2 hb => zC5 Tryz.underlying50 rfl ((B1.below hb).cell 2)) (fun _ _ => rfl)) ?_
  refine zA (zD4 rfl Tryz.func120 (by kernel_rfl) (zB6 rfl) (zB7 (j:=1) (by kernel_rfl) rfl rfl) (zB7 (j:=3) (by kernel_rfl) rfl rfl) (fun w2 u0 u1 hb h0 h1 => by obtain rfl:=h0; obtain rfl:=h1; exact (qE _ x.num _ y.den U L _ (k0z.below hb) (k1d.below hb) HY.out (zB4 lx1 (by decide)) (zB4 ly2 (by decide)) HU.out HL.out).mono fun e w3 h => zU9.pd h hb.size)) ?_
  refine zA (zC2 rfl (zB6 rfl) (zB7 (j:=4) (by kernel_rfl) rfl rfl) (fun _ _ h => h)) ?_
  refine zA (zG7 rfl (zB6 rfl) (zB7 (j:=5) (by kernel_rfl) rfl rfl) (fun w2 u hu => by obtain ⟨v,u,rfl,q1,q2,q3,q4⟩:=hu; exact ⟨v,rfl,q1,q3⟩)) ?_
  refine zA (zG7 rfl (zB6 rfl) (zB7 (j:=5) (by kernel_rfl) rfl rfl) (fun w2 u hu => by obtain ⟨v,u,rfl,q1,q2,q3,q4⟩:=hu; exact ⟨u,rfl,q2,q4⟩)) ?_
  refine zA (zN6 (z:=.agg #[.bool false,.slice none 0 0]) rfl rfl (fun _ => by kernel_rfl) (fun _ _ hB h => ⟨_,rfl,hB,h⟩)) ?_
  trivial
 case done28 =>
  refine fun w1 hb1 v0 h0 v1 h1 v2 h2 v3 h3 v4 h4 v5 h5 v6 h6 v7 h7 v8 h8 d8 b hbf => ?_
  obtain rfl:=h0; obtain rfl:=h1; obtain rfl:=h2; obtain rfl:=h3
  clear h4
  clear h5
  obtain ⟨q6,f6⟩:=h6
  obtain ⟨q7,f7⟩:=h7
  obtain ⟨g28_8,rfl,hg8,B8⟩:=h8
  simp only [Act.put,zA0,zA2,zA1] at hbf
  subst hbf
  replace B0:=B0.below hb1
  replace k0s:=k0s.below hb1
  replace k0d:=k0d.below hb1
  replace k0z:=k0z.below hb1
  replace k0:=k0.below hb1
  replace B1:=B1.below hb1
  replace k1s:=k1s.below hb1
  replace k1d:=k1d.below hb1
  replace k1z:=k1z.below hb1
  replace k1:=k1.below hb1
  replace BR0:=BR0.below hb1
  replace bb:=bb.trans (hb1.mono bb.size)
  have hsz1:=bb.size
  have s_6:=sB
  have s_7:=sB
  obtain ⟨A16,c16,rfl,_⟩:=id q7
  have n16:=q7
  have n16f:=f7
  have n16z_:=s_7
  have BA5:=B8
  obtain ⟨u6,rfl,q6⟩:=q6
  obtain ⟨A5,c5,rfl,_⟩:=id q6
  refine zG8 (i:=9) rfl rfl rfl rfl rfl rfl (cells:=[.bool (ngB U),.slice A5 (digs 4294967296 (U).natAbs).length c5]) rfl BA5 rfl (by kernel_rfl) (zH8 rfl rfl) fun w2 hg2 BN2 => ?_
  replace q6:=off q6 BA5 no_ints2 hg2
  replace n16:=off n16 BA5 no_ints2 hg2
  replace k0s:=off k0s BA5 no_ints2 hg2
  replace k0d:=off k0d BA5 no_ints2 hg2
  replace k0z : IsZ w2 (.agg #[.bool (ngB (x).num),.slice A0 (digs 4294967296 (x).num.natAbs).length c0]) ((x).num):=⟨_,rfl,k0s⟩
  replace k0 : IsQ w2 (.agg #[.bool (ngB (x).num),.slice A0 (digs 4294967296 (x).num.natAbs).length c0,.slice D0 (digs 4294967296 (x).den).length e0]) (x):=⟨_,_,rfl,k0s,k0d⟩
  replace B0:=B0.grown hg2 (by omega)
  replace k1s:=off k1s BA5 no_ints2 hg2
  replace k1d:=off k1d BA5 no_ints2 hg2
  replace k1z : IsZ w2 (.agg #[.bool (ngB (y).num),.slice A1 (digs 4294967296 (y).num.natAbs).length c1]) ((y).num):=⟨_,rfl,k1s⟩
  replace k1 : IsQ w2 (.agg #[.bool (ngB (y).num),.slice A1 (digs 4294967296 (y).num.natAbs).length c1,.slice D1 (digs 4294967296 (y).den).length e1]) (y):=⟨_,_,rfl,k1s,k1d⟩
  replace B1:=B1.grown hg2 (by omega)
  replace BR0:=BR0.grown hg2 (by omega)
  replace bb:=bb.trans ((Below.refl _ _).grown hg2 bb.size (fun g hg => by injection hg with hg; omega))
  have hsz2:=bb.size
  have B5 : Blk w2 (g28_8) _ _:=BN2
  have k5s:=q6
  have k5 : IsZ w2 (.agg #[.bool (ngB U),.slice A5 (digs 4294967296 (U).natAbs).length c5]) (U):=⟨_,rfl,k5s⟩
  refine zP7 (i:=10) (.slice A16 (digs 4294967296 L).length c16) rfl rfl rfl rfl rfl fun b hbf => ?_
  simp only [Act.put,zA0,zA2,zA1] at hbf
  subst hbf
  refine zD ?_
  have f5_:=(f6 _ _ rfl).mono s_6
  have sB:=bb.size
  go_upto_region 2 with (fail)
  have lt2_2:=Blk.lt B0
  have lt2_3:=Blk.lt B1
  have lt2_4:=Blk.lt BR0
  have lt2_5:=Blk.lt B5
  refine zC9 9 [Pd.eq (.pointer (some ⟨w.heap.size + 1,0,none⟩)),Pd.eq (.agg #[.bool (ngB (y).num),.slice A1 (digs 4294967296 (y).num.natAbs).length c1]),Pd.eq (.pointer (some ⟨w.heap.size,2,none⟩)),Pd.eq (.slice D0 (digs 4294967296 (x).den).length e0),pzs (V) (M) w2.heap.size,pzs (V) (M) w2.heap.size,pz (V) w2.heap.size,ps .u64 (digs 4294967296 M) w2.heap.size,pn 60 #[.bool false,.slice none 0 0] w2.heap.size] (by kernel_rfl) ?ob29 ?done29
  case ob29 =>
   refine zA (zC3 rfl (zB6 rfl) (zB8 rfl rfl) (fun _ => by kernel_rfl) (fun _ => rfl)) ?_
   refine zA (zC rfl (zB6 rfl) (zB7 (j:=0) (by kernel_rfl) rfl rfl) (fun w2 hb => zR0 Tryz.underlying60 rfl (by kernel_rfl) (B1.below hb) rfl) (fun _ _ => rfl)) ?_
   refine zA (zC3 rfl (zB6 rfl) (zB8 rfl rfl) (fun _ => by kernel_rfl) (fun _ => rfl)) ?_
   refine zA (zC rfl (zB6 rfl) (zB7 (j:=2) (by kernel_rfl) rfl rfl) (fun w2 hb => zC5 Tryz.underlying50 rfl ((B0.below hb).cell 2)) (fun _ _ => rfl)) ?_
   refine zA (zD4 rfl Tryz.func120 (by kernel_rfl) (zB6 rfl) (zB7 (j:=1) (by kernel_rfl) rfl rfl) (zB7 (j:=3) (by kernel_rfl) rfl rfl) (fun w2 u0 u1 hb h0 h1 => by obtain rfl:=h0; obtain rfl:=h1; exact (qE _ y.num _ x.den V M _ (k1z.below hb) (k0d.below hb) HX.out (zB4 ly1 (by decide)) (zB4 lx2 (by decide)) HV.out HM.out).mono fun e w3 h => zU9.pd h hb.size)) ?_
   refine zA (zC2 rfl (zB6 rfl) (zB7 (j:=4) (by kernel_rfl) rfl rfl) (fun _ _ h => h)) ?_
   refine zA (zG7 rfl (zB6 rfl) (zB7 (j:=5) (by kernel_rfl) rfl rfl) (fun w2 u hu => by obtain ⟨v,u,rfl,q1,q2,q3,q4⟩:=hu; exact ⟨v,rfl,q1,q3⟩)) ?_
   refine zA (zG7 rfl (zB6 rfl) (zB7 (j:=5) (by kernel_rfl) rfl rfl) (fun w2 u hu => by obtain ⟨v,u,rfl,q1,q2,q3,q4⟩:=hu; exact ⟨u,rfl,q2,q4⟩)) ?_
   refine zA (zN6 (z:=.agg #[.bool false,.slice none 0 0]) rfl rfl (fun _ => by kernel_rfl) (fun _ _ hB h => ⟨_,rfl,hB,h⟩)) ?_
   trivial
  case done29 =>
   refine fun w3 hb3 v0 h0 v1 h1 v2 h2 v3 h3 v4 h4 v5 h5 v6 h6 v7 h7 v8 h8 d8 b hbf => ?_
   obtain rfl:=h0; obtain rfl:=h1; obtain rfl:=h2; obtain rfl:=h3
   clear h4
   clear h5
   obtain ⟨q6,f6⟩:=h6
   obtain ⟨q7,f7⟩:=h7
   obtain ⟨g29_8,rfl,hg8,B8⟩:=h8
   simp only [Act.put,zA0,zA2,zA1] at hbf
   subst hbf
   replace B0:=B0.below hb3
   replace k0s:=k0s.below hb3
   replace k0d:=k0d.below hb3
   replace k0z:=k0z.below hb3
   replace k0:=k0.below hb3
   replace B1:=B1.below hb3
   replace k1s:=k1s.below hb3
   replace k1d:=k1d.below hb3
   replace k1z:=k1z.below hb3
   replace k1:=k1.below hb3
   replace BR0:=BR0.below hb3
   replace B5:=B5.below hb3
   replace k5s:=k5s.below hb3
   replace k5:=k5.below hb3
   replace n16:=n16.below hb3
   replace bb:=bb.trans (hb3.mono bb.size)
   have hsz3:=bb.size
   have s_6:=sB
   have s_7:=sB
   obtain ⟨A24,c24,rfl,_⟩:=id q7
   have n24:=q7
   have n24f:=f7
   have n24z_:=s_7
   have BA7:=B8
   obtain ⟨u6,rfl,q6⟩:=q6
   obtain ⟨A7,c7,rfl,_⟩:=id q6
   refine zG8 (i:=9) rfl rfl rfl rfl rfl rfl (cells:=[.bool (ngB V),.slice A7 (digs 4294967296 (V).natAbs).length c7]) rfl BA7 rfl (by kernel_rfl) (zH8 rfl rfl) fun w4 hg4 BN4 => ?_
   replace q6:=off q6 BA7 no_ints2 hg4
   replace n16:=off n16 BA7 no_ints2 hg4
   replace n24:=off n24 BA7 no_ints2 hg4
   replace k0s:=off k0s BA7 no_ints2 hg4
   replace k0d:=off k0d BA7 no_ints2 hg4
   replace k0z : IsZ w4 (.agg #[.bool (ngB (x).num),.slice A0 (digs 4294967296 (x).num.natAbs).length c0]) ((x).num):=⟨_,rfl,k0s⟩
   replace k0 : IsQ w4 (.agg #[.bool (ngB (x).num),.slice A0 (digs 4294967296 (x).num.natAbs).length c0,.slice D0 (digs 4294967296 (x).den).length e0]) (x):=⟨_,_,rfl,k0s,k0d⟩
   replace B0:=B0.grown hg4 (by omega)
   replace k1s:=off k1s BA7 no_ints2 hg4
   replace k1d:=off k1d BA7 no_ints2 hg4
   replace k1z : IsZ w4 (.agg #[.bool (ngB (y).num),.slice A1 (digs 4294967296 (y).num.natAbs).length c1]) ((y).num):=⟨_,rfl,k1s⟩
   replace k1 : IsQ w4 (.agg #[.bool (ngB (y).num),.slice A1 (digs 4294967296 (y).num.natAbs).length c1,.slice D1 (digs 4294967296 (y).den).length e1]) (y):=⟨_,_,rfl,k1s,k1d⟩
   replace B1:=B1.grown hg4 (by omega)
   replace BR0:=BR0.grown hg4 (by omega)
   replace k5s:=off k5s BA7 no_ints2 hg4
   replace k5 : IsZ w4 (.agg #[.bool (ngB U),.slice A5 (digs 4294967296 (U).natAbs).length c5]) (U):=⟨_,rfl,k5s⟩
   replace B5:=B5.grown hg4 (by omega)
   replace bb:=bb.trans ((Below.refl _ _).grown hg4 bb.size (fun g hg => by injection hg with hg; omega))
   have hsz4:=bb.size
   have B7 : Blk w4 (g29_8) _ _:=BN4
   have k7s:=q6
   have k7 : IsZ w4 (.agg #[.bool (ngB V),.slice A7 (digs 4294967296 (V).natAbs).length c7]) (V):=⟨_,rfl,k7s⟩
   refine zP7 (i:=10) (.slice A24 (digs 4294967296 M).length c24) rfl rfl rfl rfl rfl fun b hbf => ?_
   simp only [Act.put,zA0,zA2,zA1] at hbf
   subst hbf
   refine zD ?_
   have f7_:=(f6 _ _ rfl).mono s_6
   have sB:=bb.size
   go_upto_region 3 with (fail)
   refine zC9 7 [Pd.eq (.agg #[.bool (ngB U),.slice A5 (digs 4294967296 (U).natAbs).length c5]),Pd.eq (.agg #[.bool (ngB V),.slice A7 (digs 4294967296 (V).natAbs).length c7]),pz ((Q).num) w4.heap.size,Pd.eq (.slice A24 (digs 4294967296 M).length c24),Pd.eq (.slice A16 (digs 4294967296 L).length c16),ps .u64 (digs 4294967296 (Q).den) w4.heap.size,pq (Q) w4.heap.size] (by kernel_rfl) ?ob30 ?done30
   case ob30 =>
    refine zA (zC rfl (zB6 rfl) (zB8 rfl rfl) (fun w2 hb => zF8 Tryz.underlying60 rfl (by kernel_rfl) (B5.below hb)) (fun _ _ => rfl)) ?_
    refine zA (zC rfl (zB6 rfl) (zB8 rfl rfl) (fun w2 hb => zF8 Tryz.underlying60 rfl (by kernel_rfl) (B7.below hb)) (fun _ _ => rfl)) ?_
    refine zA (zD4 rfl Tryz.func56 (by kernel_rfl) (zB6 rfl) (zB7 (j:=0) (by kernel_rfl) rfl rfl) (zB7 (j:=1) (by kernel_rfl) rfl rfl) (fun w2 u0 u1 hb h0 h1 => by obtain rfl:=h0; obtain rfl:=h1; exact (zX2 _ _ U V (Q).num _ (k5.below hb) (k7.below hb) (zB4 lU.1 (by decide)) (zB4 lV.1 (by decide)) HQN.out.symm).mono fun e w3 h => zE2.pd h hb.size)) ?_
    refine zA (zC2 rfl (zB6 rfl) (zB8 rfl rfl) (fun _ _ h => h)) ?_
    refine zA (zC2 rfl (zB6 rfl) (zB8 rfl rfl) (fun _ _ h => h)) ?_
    refine zA (zD4 rfl Tryz.func152 (by kernel_rfl) (zB6 rfl) (zB7 (j:=3) (by kernel_rfl) rfl rfl) (zB7 (j:=4) (by kernel_rfl) rfl rfl) (fun w2 u0 u1 hb h0 h1 => by obtain rfl:=h0; obtain rfl:=h1; exact (qP1 _ M _ L _ (n24.below hb) (n16.below hb) (zB4 lV.2 (by decide)) (zB4 lU.2 (by decide))).mono fun e w3 h => zD1.pd (zD1.to h (congrArg (digs 4294967296) HQD.out)) hb.size)) ?_
    refine zA (zL3 rfl (zB6 rfl) (zB7 (j:=2) (by kernel_rfl) rfl rfl) (zB7 (j:=5) (by kernel_rfl) rfl rfl) (fun w2 u v hb hu hv => by obtain ⟨u7,rfl,hu7⟩:=hu.1; obtain ⟨A7,c7,rfl,_⟩:=id hu7; obtain ⟨A8,c8,rfl,_⟩:=id hv.1; exact ⟨.agg #[.bool (ngB (Q).num),.slice A7 (digs 4294967296 (Q).num.natAbs).length c7,.slice A8 (digs 4294967296 (Q).den).length c8],by kernel_rfl,⟨⟨_,_,rfl,hu7,hv.1⟩,zL2 (hu.2 _ _ rfl) hv.2⟩⟩)) ?_
    trivial
   case done30 =>
    refine fun w5 hb5 v0 h0 v1 h1 v2 h2 v3 h3 v4 h4 v5 h5 v6 h6 b hbf => ?_
    obtain rfl:=h0; obtain rfl:=h1; obtain rfl:=h3; obtain rfl:=h4
    obtain ⟨q2,f2⟩:=h2
    obtain ⟨q5,f5⟩:=h5
    obtain ⟨q6,f6⟩:=h6
    simp only [Act.put,zA0,zA2,zA1] at hbf
    subst hbf
    replace B0:=B0.below hb5
    replace k0s:=k0s.below hb5
    replace k0d:=k0d.below hb5
    replace k0z:=k0z.below hb5
    replace k0:=k0.below hb5
    replace B1:=B1.below hb5
    replace k1s:=k1s.below hb5
    replace k1d:=k1d.below hb5
    replace k1z:=k1z.below hb5
    replace k1:=k1.below hb5
    replace BR0:=BR0.below hb5
    replace B5:=B5.below hb5
    replace k5s:=k5s.below hb5
    replace k5:=k5.below hb5
    replace B7:=B7.below hb5
    replace k7s:=k7s.below hb5
    replace k7:=k7.below hb5
    replace n16:=n16.below hb5
    replace n24:=n24.below hb5
    replace bb:=bb.trans (hb5.mono bb.size)
    have hsz5:=bb.size
    have s_2:=sB
    have s_5:=sB
    have s_6:=sB
    obtain ⟨u6,t6,rfl,q6,d6⟩:=q6
    obtain ⟨A9,c9,rfl,_⟩:=id q6
    obtain ⟨D9,e9,rfl,_⟩:=id d6
    have fS:=(f6 _ _ _ rfl).1.mono s_6
    have fT:=(f6 _ _ _ rfl).2.mono s_6
    refine zG8 (i:=7) rfl rfl rfl rfl rfl rfl (cells:=[.bool (ngB (Q).num),.slice A9 (digs 4294967296 (Q).num.natAbs).length c9,.slice D9 (digs 4294967296 (Q).den).length e9]) rfl BR0 rfl (by kernel_rfl) (zI3 rfl rfl rfl) fun w9 hg9 B9 => ?_
    have k9:=off q6 BR0 zE hg9
    have d9:=off d6 BR0 zE hg9
    have bb9:=bb.trans ((Below.refl _ _).grown hg9 bb.size (fun g hg => by injection hg with hg; omega))
    obtain ⟨C0,C1,C2,_,_,_⟩:=three B9
    refine zD ?_
    go_wp2
    rw [HQ0.out]
    exact bodyPost_ret (v:=.agg #[.bool (ngB (Q).num),.slice A9 (digs 4294967296 (Q).num.natAbs).length c9,.slice D9 (digs 4294967296 (Q).den).length e9]) (by simp [results,Tryz.results127,go_sem,C0,C1,C2]) rfl ⟨_,rfl,zU7 k9 d9 rfl rfl rfl,zL2 fS fT,bb9⟩
theorem yX2 (a0 : Value) (x : Rat) (a1 : Value) (y : Rat) (w : World) (h0 : IsQ w a0 x) (h1 : IsQ w a1 y) (hl : zC7 x 4900) (hl2 : zC7 y 4900) :
  Calls Tryz.prog 175 #[a0,a1] w (RetQ (x + y) w):=by
 obtain ⟨u0,t0,rfl,s0,r0⟩:=h0
 obtain ⟨A0,c0,rfl,_⟩:=id s0
 obtain ⟨D0,e0,rfl,_⟩:=id r0
 obtain ⟨u1,t1,rfl,s1,r1⟩:=h1
 obtain ⟨A1,c1,rfl,_⟩:=id s1
 obtain ⟨D1,e1,rfl,_⟩:=id r1
 obtain ⟨G,hG⟩ : ∃ G,G = Nat.gcd x.den y.den:=⟨_,rfl⟩
 obtain ⟨m1,ha⟩ : ∃ m1,m1 = x.den / G:=⟨_,rfl⟩
 obtain ⟨m2,hb_⟩ : ∃ m2,m2 = y.den / G:=⟨_,rfl⟩
 have hGp : 0 < G:=by rw [hG]; exact Nat.gcd_pos_of_pos_left _ x.den_pos
 have hGd : G <= x.den:=by rw [hG]; exact Nat.gcd_le_left _ x.den_pos
 obtain ⟨S,hS⟩ : ∃ S,S = (x.num * ((m2 : Nat) : Int) + y.num * ((m1 : Nat) : Int)):=⟨_,rfl⟩
 obtain ⟨U,hU⟩ : ∃ U,U = (mkRat S G).num:=⟨_,rfl⟩
 obtain ⟨L,hL⟩ : ∃ L,L = (mkRat S G).den:=⟨_,rfl⟩
 obtain ⟨Q,hQ⟩ : ∃ Q,Q = x + y:=⟨_,rfl⟩
 have HQ0 : Hid (x + y = Q):=hQ.symm
 have HP:=yU2 x y hG ha hb_
 rw [<- hS,<- hU,<- hL,<- hQ] at HP
 have HQN:=Lib.hid HP.1
 have HQD:=Lib.hid HP.2
 have lx1:=hl.1
 have lx2:=hl.2
 have ly1:=hl2.1
 have ly2:=hl2.2
 have la : (digs 4294967296 m1).length <= 4900:=zB4 (zF7 (by omega) (by rw [ha]; exact Nat.div_le_self _ _)) lx2
 have lb : (digs 4294967296 m2).length <= 4900:=zB4 (zF7 (by omega) (by rw [hb_]; exact Nat.div_le_self _ _)) ly2
 have lG : (digs 4294967296 G).length <= 4900:=zB4 (zF7 (by omega) hGd) lx2
 have lza : zC1 ((m1 : Nat) : Int) <= 4900:=by rw [zP8]; exact la
 have lzb : zC1 ((m2 : Nat) : Int) <= 4900:=by rw [zP8]; exact lb
 have lp : zC1 (x.num * ((m2 : Nat) : Int)) <= 9800:=zO1 lx1 lzb
 have lq : zC1 (y.num * ((m1 : Nat) : Int)) <= 9800:=zO1 ly1 lza
 have lS : zC1 S <= 19601:=by rw [hS]; exact yS8 lp lq
 have HL1 : Hid ((digs 4294967296 x.den).length <= 90000):=zB4 lx2 (by decide)
 have HL2 : Hid ((digs 4294967296 y.den).length <= 90000):=zB4 ly2 (by decide)
 have lL : (digs 4294967296 L).length <= 4900:=zB4 (zF7 (by omega) (by rw [hL,zU6 S (by omega)]; exact Nat.div_le_self _ _)) lG
 have lab : (digs 4294967296 (m1 * m2)).length <= 9800:=by have:=zT9 m1 m2; omega
 have HG : Hid (zM9 [x.den,y.den] = G):=by show _ = _; rw [hG]; simp [zM9]
 have HM1 : Hid (x.den % G = 0):=by show _ = _; rw [hG]; exact Nat.mod_eq_zero_of_dvd (Nat.gcd_dvd_left _ _)
 have HM2 : Hid (y.den % G = 0):=by show _ = _; rw [hG]; exact Nat.mod_eq_zero_of_dvd (Nat.gcd_dvd_right _ _)
 have HA:=Lib.hid ha
 have HB:=Lib.hid hb_
 have HS : Hid ((x.num * ((m2 : Nat) : Int) + y.num * ((m1 : Nat) : Int)) = S):=hS.symm
 have HU:=Lib.hid hU
 have HL:=Lib.hid hL
 have HGn : Hid (G ≠ 0):=by show _ ≠ _; omega
 clear hG ha hb_ hS hU hL hQ HP
 go_enter Tryz.func175,Tryz.ntmps175
 go_upto_region 1 with (fail)
 obtain ⟨wx,hwx,bb,B0,B1,BR0,hsz⟩:=zN7 w 83 83 83 #[.bool (ngB (x).num),.slice A0 (digs 4294967296 (x).num.natAbs).length c0,.slice D0 (digs 4294967296 (x).den).length e0] #[.bool (ngB (y).num),.slice A1 (digs 4294967296 (y).num.natAbs).length c1,.slice D1 (digs 4294967296 (y).den).length e1] #[.bool false,.slice none 0 0,.slice none 0 0]
 rw [hwx]
 clear hwx
 have k0s:=s0.below bb
 have k0d:=r0.below bb
 have k0z : IsZ wx (.agg #[.bool (ngB (x).num),.slice A0 (digs 4294967296 (x).num.natAbs).length c0]) (x).num:=⟨_,rfl,k0s⟩
 have k0 : IsQ wx (.agg #[.bool (ngB (x).num),.slice A0 (digs 4294967296 (x).num.natAbs).length c0,.slice D0 (digs 4294967296 (x).den).length e0]) (x):=⟨_,_,rfl,k0s,k0d⟩
 have k1s:=s1.below bb
 have k1d:=r1.below bb
 have k1z : IsZ wx (.agg #[.bool (ngB (y).num),.slice A1 (digs 4294967296 (y).num.natAbs).length c1]) (y).num:=⟨_,rfl,k1s⟩
 have k1 : IsQ wx (.agg #[.bool (ngB (y).num),.slice A1 (digs 4294967296 (y).num.natAbs).length c1,.slice D1 (digs 4294967296 (y).den).length e1]) (y):=⟨_,_,rfl,k1s,k1d⟩
 have hsz0:=bb.size
 obtain ⟨x00,x01,x02,_,_,_⟩:=three B0
 obtain ⟨x10,x11,x12,_,_,_⟩:=three B1
 go_wp2_with fail
 have hbA:=zC8 (zB3 wx.heap.size) (.cells #[.slice D0 (digs 4294967296 (x).den).length e0,.slice D1 (digs 4294967296 (y).den).length e1] 50)
 refine (qO7 _ [_,_] [x.den,y.den] _ (zQ7 wx 50 [_,_]) (qG5 (k0d.below hbA) (k1d.below hbA)) (by simp) (by intro q hq; simp at hq; rcases hq with rfl | rfl; exact HL1.out; exact HL2.out)).mono ?_
 rintro e w1 ⟨v1,rfl,kg,kgf,b1⟩
 have hb1:=hbA.trans (b1.mono hbA.size)
 rw [HG.out] at kg
 clear x00 x01 x02 x10 x11 x12
 replace B0:=B0.below hb1
 replace k0s:=k0s.below hb1
 replace k0d:=k0d.below hb1
 replace k0z:=k0z.below hb1
 replace k0:=k0.below hb1
 replace B1:=B1.below hb1
 replace k1s:=k1s.below hb1
 replace k1d:=k1d.below hb1
 replace k1z:=k1z.below hb1
 replace k1:=k1.below hb1
 replace BR0:=BR0.below hb1
 replace bb:=bb.trans (hb1.mono bb.size)
 have hsz1:=bb.size
 obtain ⟨Akg,ckg,rfl,_⟩:=id kg
 have sB:=bb.size
 go_upto_region 2 with (fail)
 refine zC9 9 [Pd.eq (.pointer (some ⟨w.heap.size,2,none⟩)),Pd.eq (.slice D0 (digs 4294967296 (x).den).length e0),Pd.eq (.slice Akg (digs 4294967296 G).length ckg),pt .u64 (digs 4294967296 m1) 0 w1.heap.size,pt .u64 (digs 4294967296 m1) 0 w1.heap.size,ps .u64 (digs 4294967296 m1) w1.heap.size,Pd.eq (.int .i64 0),ps .u64 (digs 4294967296 m1) w1.heap.size,Pd.eq (.int .i64 0)] (by kernel_rfl) ?ob37 ?done37
 case ob37 =>
  refine zA (zC3 rfl (zB6 rfl) (zB8 rfl rfl) (fun _ => by kernel_rfl) (fun _ => rfl)) ?_
  refine zA (zC rfl (zB6 rfl) (zB7 (j:=0) (by kernel_rfl) rfl rfl) (fun w2 hb => zC5 Tryz.underlying50 rfl ((B0.below hb).cell 2)) (fun _ _ => rfl)) ?_
  refine zA (zC2 rfl (zB6 rfl) (zB8 rfl rfl) (fun _ _ h => h)) ?_
  refine zA (zD4 rfl Tryz.func55 (by kernel_rfl) (zB6 rfl) (zB7 (j:=1) (by kernel_rfl) rfl rfl) (zB7 (j:=2) (by kernel_rfl) rfl rfl) (fun w2 u0 u1 hb h0 h1 => by obtain rfl:=h0; obtain rfl:=h1; exact (zZ0 _ _ x.den G _ (k0d.below hb) (kg.below hb) HL1.out (zB4 lG (by decide)) hGp m1 HM1.out HA.out).mono fun e w3 h => zN3.pd h hb.size)) ?_
  refine zA (zC2 rfl (zB6 rfl) (zB7 (j:=3) (by kernel_rfl) rfl rfl) (fun _ _ h => h)) ?_
  refine zA (zG7 rfl (zB6 rfl) (zB7 (j:=4) (by kernel_rfl) rfl rfl) (fun w2 u hu => by obtain ⟨v,rfl,q1,q2⟩:=hu; exact ⟨v,rfl,q1,q2⟩)) ?_
  refine zA (zG7 rfl (zB6 rfl) (zB7 (j:=4) (by kernel_rfl) rfl rfl) (fun w2 u hu => by obtain ⟨v,rfl,q1,q2⟩:=hu; exact ⟨_,rfl,rfl⟩)) ?_
  refine zA (zE8 rfl (zB6 rfl) (zB7 (j:=5) (by kernel_rfl) rfl rfl) (fun _ _ h => h)) ?_
  refine zA (zE8 rfl (zB6 rfl) (zB7 (j:=6) (by kernel_rfl) rfl rfl) (fun _ _ h => h)) ?_
  trivial
 case done37 =>
  refine fun w2 hb2 v0 h0 v1 h1 v2 h2 v3 h3 v4 h4 v5 h5 v6 h6 v7 h7 v8 h8 b hbf => ?_
  obtain rfl:=h0; obtain rfl:=h1; obtain rfl:=h2; obtain rfl:=h6; obtain rfl:=h8
  clear h3
  clear h4
  obtain ⟨q5,f5⟩:=h5
  obtain ⟨q7,f7⟩:=h7
  simp only [Act.put,zA0,zA2,zA1] at hbf
  subst hbf
  replace B0:=B0.below hb2
  replace k0s:=k0s.below hb2
  replace k0d:=k0d.below hb2
  replace k0z:=k0z.below hb2
  replace k0:=k0.below hb2
  replace B1:=B1.below hb2
  replace k1s:=k1s.below hb2
  replace k1d:=k1d.below hb2
  replace k1z:=k1z.below hb2
  replace k1:=k1.below hb2
  replace BR0:=BR0.below hb2
  replace kg:=kg.below hb2
  replace bb:=bb.trans (hb2.mono bb.size)
  have hsz2:=bb.size
  have s_5:=sB
  have s_7:=sB
  refine zD ?_
  obtain ⟨A6,c6,rfl,_⟩:=id q7
  have n6:=q7
  have n6f:=f7
  have n6z_:=s_7
  have sB:=bb.size
  go_upto_region 3 with (fail)
  refine zC9 9 [Pd.eq (.pointer (some ⟨w.heap.size + 1,2,none⟩)),Pd.eq (.slice D1 (digs 4294967296 (y).den).length e1),Pd.eq (.slice Akg (digs 4294967296 G).length ckg),pt .u64 (digs 4294967296 m2) 0 w2.heap.size,pt .u64 (digs 4294967296 m2) 0 w2.heap.size,ps .u64 (digs 4294967296 m2) w2.heap.size,Pd.eq (.int .i64 0),ps .u64 (digs 4294967296 m2) w2.heap.size,Pd.eq (.int .i64 0)] (by kernel_rfl) ?ob38 ?done38
  case ob38 =>
   refine zA (zC3 rfl (zB6 rfl) (zB8 rfl rfl) (fun _ => by kernel_rfl) (fun _ => rfl)) ?_
   refine zA (zC rfl (zB6 rfl) (zB7 (j:=0) (by kernel_rfl) rfl rfl) (fun w2 hb => zC5 Tryz.underlying50 rfl ((B1.below hb).cell 2)) (fun _ _ => rfl)) ?_
   refine zA (zC2 rfl (zB6 rfl) (zB8 rfl rfl) (fun _ _ h => h)) ?_
   refine zA (zD4 rfl Tryz.func55 (by kernel_rfl) (zB6 rfl) (zB7 (j:=1) (by kernel_rfl) rfl rfl) (zB7 (j:=2) (by kernel_rfl) rfl rfl) (fun w2 u0 u1 hb h0 h1 => by obtain rfl:=h0; obtain rfl:=h1; exact (zZ0 _ _ y.den G _ (k1d.below hb) (kg.below hb) HL2.out (zB4 lG (by decide)) hGp m2 HM2.out HB.out).mono fun e w3 h => zN3.pd h hb.size)) ?_
   refine zA (zC2 rfl (zB6 rfl) (zB7 (j:=3) (by kernel_rfl) rfl rfl) (fun _ _ h => h)) ?_
   refine zA (zG7 rfl (zB6 rfl) (zB7 (j:=4) (by kernel_rfl) rfl rfl) (fun w2 u hu => by obtain ⟨v,rfl,q1,q2⟩:=hu; exact ⟨v,rfl,q1,q2⟩)) ?_
   refine zA (zG7 rfl (zB6 rfl) (zB7 (j:=4) (by kernel_rfl) rfl rfl) (fun w2 u hu => by obtain ⟨v,rfl,q1,q2⟩:=hu; exact ⟨_,rfl,rfl⟩)) ?_
   refine zA (zE8 rfl (zB6 rfl) (zB7 (j:=5) (by kernel_rfl) rfl rfl) (fun _ _ h => h)) ?_
   refine zA (zE8 rfl (zB6 rfl) (zB7 (j:=6) (by kernel_rfl) rfl rfl) (fun _ _ h => h)) ?_
   trivial
  case done38 =>
   refine fun w3 hb3 v0 h0 v1 h1 v2 h2 v3 h3 v4 h4 v5 h5 v6 h6 v7 h7 v8 h8 b hbf => ?_
   obtain rfl:=h0; obtain rfl:=h1; obtain rfl:=h2; obtain rfl:=h6; obtain rfl:=h8
   clear h3
   clear h4
   obtain ⟨q5,f5⟩:=h5
   obtain ⟨q7,f7⟩:=h7
   simp only [Act.put,zA0,zA2,zA1] at hbf
   subst hbf
   replace B0:=B0.below hb3
   replace k0s:=k0s.below hb3
   replace k0d:=k0d.below hb3
   replace k0z:=k0z.below hb3
   replace k0:=k0.below hb3
   replace B1:=B1.below hb3
   replace k1s:=k1s.below hb3
   replace k1d:=k1d.below hb3
   replace k1z:=k1z.below hb3
   replace k1:=k1.below hb3
   replace BR0:=BR0.below hb3
   replace kg:=kg.below hb3
   replace n6:=n6.below hb3
   replace bb:=bb.trans (hb3.mono bb.size)
   have hsz3:=bb.size
   have s_5:=sB
   have s_7:=sB
   refine zD ?_
   obtain ⟨A8,c8,rfl,_⟩:=id q7
   have n8:=q7
   have n8f:=f7
   have n8z_:=s_7
   have sB:=bb.size
   go_upto_region 4 with (fail)
   have lt3_2:=Blk.lt B0
   have lt3_3:=Blk.lt B1
   have lt3_4:=Blk.lt BR0
   refine flow 12 [Pd.eq (.pointer (some ⟨w.heap.size,0,none⟩)),Pd.eq (.agg #[.bool (ngB (x).num),.slice A0 (digs 4294967296 (x).num.natAbs).length c0]),Pd.eq (.slice A8 (digs 4294967296 m2).length c8),pi (((m2 : Nat) : Int)),pi ((x.num * ((m2 : Nat) : Int))),Pd.eq (.pointer (some ⟨w.heap.size + 1,0,none⟩)),Pd.eq (.agg #[.bool (ngB (y).num),.slice A1 (digs 4294967296 (y).num.natAbs).length c1]),Pd.eq (.slice A6 (digs 4294967296 m1).length c6),pi (((m1 : Nat) : Int)),pi ((y.num * ((m1 : Nat) : Int))),pz (S) w3.heap.size,pn 60 #[.bool false,.slice none 0 0] w3.heap.size] (by kernel_rfl) (by kernel_rfl) ?ob39 ?done39
   case ob39 =>
    refine zA (zC3 rfl (zB6 rfl) (zB8 rfl rfl) (fun _ => by kernel_rfl) (fun _ => rfl)) ?_
    refine zA (zC rfl (zB6 rfl) (zB7 (j:=0) (by kernel_rfl) rfl rfl) (fun w2 hb => zR0 Tryz.underlying60 rfl (by kernel_rfl) (B0.drew.below hb) rfl) (fun _ _ => rfl)) ?_
    refine zA (zC2 rfl (zB6 rfl) (zB8 rfl rfl) (fun _ _ h => h)) ?_
    refine zA (zF rfl Tryz.func149 (by kernel_rfl) (zB6 rfl) (zB7 (j:=2) (by kernel_rfl) rfl rfl) (fun w2 u0 hb h0 => by obtain rfl:=h0; exact qD9 _ (m2) _ (n8.drew.below hb))) ?_
    refine zA (zD4 rfl Tryz.func56 (by kernel_rfl) (zB6 rfl) (zB7 (j:=1) (by kernel_rfl) rfl rfl) (zB7 (j:=3) (by kernel_rfl) rfl rfl) (fun w2 u0 u1 hb h0 h1 => by obtain rfl:=h0; exact (zX2 _ _ _ _ (x.num * ((m2 : Nat) : Int)) _ (k0z.drew.below hb) h1 (zB4 lx1 (by decide)) (zB4 lzb (by decide)) rfl).mono fun e w3 h => zE2.pi h)) ?_
    refine zA (zC3 rfl (zB6 rfl) (zB8 rfl rfl) (fun _ => by kernel_rfl) (fun _ => rfl)) ?_
    refine zA (zC rfl (zB6 rfl) (zB7 (j:=5) (by kernel_rfl) rfl rfl) (fun w2 hb => zR0 Tryz.underlying60 rfl (by kernel_rfl) (B1.drew.below hb) rfl) (fun _ _ => rfl)) ?_
    refine zA (zC2 rfl (zB6 rfl) (zB8 rfl rfl) (fun _ _ h => h)) ?_
    refine zA (zF rfl Tryz.func149 (by kernel_rfl) (zB6 rfl) (zB7 (j:=7) (by kernel_rfl) rfl rfl) (fun w2 u0 hb h0 => by obtain rfl:=h0; exact qD9 _ (m1) _ (n6.drew.below hb))) ?_
    refine zA (zD4 rfl Tryz.func56 (by kernel_rfl) (zB6 rfl) (zB7 (j:=6) (by kernel_rfl) rfl rfl) (zB7 (j:=8) (by kernel_rfl) rfl rfl) (fun w2 u0 u1 hb h0 h1 => by obtain rfl:=h0; exact (zX2 _ _ _ _ (y.num * ((m1 : Nat) : Int)) _ (k1z.drew.below hb) h1 (zB4 ly1 (by decide)) (zB4 lza (by decide)) rfl).mono fun e w3 h => zE2.pi h)) ?_
    refine zA (zD4 rfl Tryz.func176 (by kernel_rfl) (zB6 rfl) (zB7 (j:=4) (by kernel_rfl) rfl rfl) (zB7 (j:=9) (by kernel_rfl) rfl rfl) (fun w2 u0 u1 hb h0 h1 => by exact (HS.out ▸ yA3 _ _ _ _ _ h0 h1 (zB4 lp (by decide)) (zB4 lq (by decide))).mono fun e w3 h => zE2.pd h hb.size)) ?_
    refine zA (zN6 (z:=.agg #[.bool false,.slice none 0 0]) rfl rfl (fun _ => by kernel_rfl) (fun _ _ hB h => ⟨_,rfl,hB,h⟩)) ?_
    trivial
   case done39 =>
    refine fun w4 hb4 v0 h0 v1 h1 v2 h2 v3 h3 v4 h4 v5 h5 v6 h6 v7 h7 v8 h8 v9 h9 v10 h10 v11 h11 d11 b hbf => ?_
    obtain rfl:=h0; obtain rfl:=h1; obtain rfl:=h2; obtain rfl:=h5; obtain rfl:=h6; obtain rfl:=h7
    have q3:=h3
    have q4:=h4
    have q8:=h8
    have q9:=h9
    obtain ⟨q10,f10⟩:=h10
    obtain ⟨g39_11,rfl,hg11,B11⟩:=h11
    simp only [Act.put,zA0,zA2,zA1] at hbf
    subst hbf
    replace B0:=B0.below hb4
    replace k0s:=k0s.below hb4
    replace k0d:=k0d.below hb4
    replace k0z:=k0z.below hb4
    replace k0:=k0.below hb4
    replace B1:=B1.below hb4
    replace k1s:=k1s.below hb4
    replace k1d:=k1d.below hb4
    replace k1z:=k1z.below hb4
    replace k1:=k1.below hb4
    replace BR0:=BR0.below hb4
    replace kg:=kg.below hb4
    replace n6:=n6.below hb4
    replace n8:=n8.below hb4
    replace bb:=bb.trans (hb4.mono bb.size)
    have hsz4:=bb.size
    have s_10:=sB
    have BA10:=B11
    obtain ⟨u10,rfl,q10⟩:=q10
    obtain ⟨A10,c10,rfl,_⟩:=id q10
    refine zK4 (i:=12) (by kernel_rfl) rfl rfl rfl rfl rfl rfl (cells:=[.bool (ngB S),.slice A10 (digs 4294967296 (S).natAbs).length c10]) rfl BA10 rfl (by kernel_rfl) (zH8 rfl rfl) fun w5 hg5 BN5 => ?_
    replace q10:=off q10 BA10 no_ints2 hg5
    replace kg:=off kg BA10 no_ints2 hg5
    replace n6:=off n6 BA10 no_ints2 hg5
    replace n8:=off n8 BA10 no_ints2 hg5
    replace k0s:=off k0s BA10 no_ints2 hg5
    replace k0d:=off k0d BA10 no_ints2 hg5
    replace k0z : IsZ w5 (.agg #[.bool (ngB (x).num),.slice A0 (digs 4294967296 (x).num.natAbs).length c0]) ((x).num):=⟨_,rfl,k0s⟩
    replace k0 : IsQ w5 (.agg #[.bool (ngB (x).num),.slice A0 (digs 4294967296 (x).num.natAbs).length c0,.slice D0 (digs 4294967296 (x).den).length e0]) (x):=⟨_,_,rfl,k0s,k0d⟩
    replace B0:=B0.grown hg5 (by omega)
    replace k1s:=off k1s BA10 no_ints2 hg5
    replace k1d:=off k1d BA10 no_ints2 hg5
    replace k1z : IsZ w5 (.agg #[.bool (ngB (y).num),.slice A1 (digs 4294967296 (y).num.natAbs).length c1]) ((y).num):=⟨_,rfl,k1s⟩
    replace k1 : IsQ w5 (.agg #[.bool (ngB (y).num),.slice A1 (digs 4294967296 (y).num.natAbs).length c1,.slice D1 (digs 4294967296 (y).den).length e1]) (y):=⟨_,_,rfl,k1s,k1d⟩
    replace B1:=B1.grown hg5 (by omega)
    replace BR0:=BR0.grown hg5 (by omega)
    replace bb:=bb.trans ((Below.refl _ _).grown hg5 bb.size (fun g hg => by injection hg with hg; omega))
    have hsz5:=bb.size
    have B10 : Blk w5 (g39_11) _ _:=BN5
    have k10s:=q10
    have k10 : IsZ w5 (.agg #[.bool (ngB S),.slice A10 (digs 4294967296 (S).natAbs).length c10]) (S):=⟨_,rfl,k10s⟩
    refine zI2 (by kernel_rfl) ?_
    have sB:=bb.size
    go_upto_region 5 with (fail)
    have lt5_2:=Blk.lt B0
    have lt5_3:=Blk.lt B1
    have lt5_4:=Blk.lt BR0
    have lt5_10:=Blk.lt B10
    refine zC9 7 [Pd.eq (.agg #[.bool (ngB S),.slice A10 (digs 4294967296 (S).natAbs).length c10]),Pd.eq (.slice Akg (digs 4294967296 G).length ckg),pzs (U) (L) w5.heap.size,pzs (U) (L) w5.heap.size,pz (U) w5.heap.size,ps .u64 (digs 4294967296 L) w5.heap.size,pn 60 #[.bool false,.slice none 0 0] w5.heap.size] (by kernel_rfl) ?ob40 ?done40
    case ob40 =>
     refine zA (zC rfl (zB6 rfl) (zB8 rfl rfl) (fun w2 hb => zF8 Tryz.underlying60 rfl (by kernel_rfl) (B10.below hb)) (fun _ _ => rfl)) ?_
     refine zA (zC2 rfl (zB6 rfl) (zB8 rfl rfl) (fun _ _ h => h)) ?_
     refine zA (zD4 rfl Tryz.func120 (by kernel_rfl) (zB6 rfl) (zB7 (j:=0) (by kernel_rfl) rfl rfl) (zB7 (j:=1) (by kernel_rfl) rfl rfl) (fun w2 u0 u1 hb h0 h1 => by obtain rfl:=h0; obtain rfl:=h1; exact (qE _ S _ G U L _ (k10.below hb) (kg.below hb) HGn.out (zB4 lS (by decide)) (zB4 lG (by decide)) HU.out HL.out).mono fun e w3 h => zU9.pd h hb.size)) ?_
     refine zA (zC2 rfl (zB6 rfl) (zB7 (j:=2) (by kernel_rfl) rfl rfl) (fun _ _ h => h)) ?_
     refine zA (zG7 rfl (zB6 rfl) (zB7 (j:=3) (by kernel_rfl) rfl rfl) (fun w2 u hu => by obtain ⟨v,u,rfl,q1,q2,q3,q4⟩:=hu; exact ⟨v,rfl,q1,q3⟩)) ?_
     refine zA (zG7 rfl (zB6 rfl) (zB7 (j:=3) (by kernel_rfl) rfl rfl) (fun w2 u hu => by obtain ⟨v,u,rfl,q1,q2,q3,q4⟩:=hu; exact ⟨u,rfl,q2,q4⟩)) ?_
     refine zA (zN6 (z:=.agg #[.bool false,.slice none 0 0]) rfl rfl (fun _ => by kernel_rfl) (fun _ _ hB h => ⟨_,rfl,hB,h⟩)) ?_
     trivial
    case done40 =>
     refine fun w6 hb6 v0 h0 v1 h1 v2 h2 v3 h3 v4 h4 v5 h5 v6 h6 d6 b hbf => ?_
     obtain rfl:=h0; obtain rfl:=h1
     clear h2
     clear h3
     obtain ⟨q4,f4⟩:=h4
     obtain ⟨q5,f5⟩:=h5
     obtain ⟨g40_6,rfl,hg6,B6⟩:=h6
     simp only [Act.put,zA0,zA2,zA1] at hbf
     subst hbf
     replace B0:=B0.below hb6
     replace k0s:=k0s.below hb6
     replace k0d:=k0d.below hb6
     replace k0z:=k0z.below hb6
     replace k0:=k0.below hb6
     replace B1:=B1.below hb6
     replace k1s:=k1s.below hb6
     replace k1d:=k1d.below hb6
     replace k1z:=k1z.below hb6
     replace k1:=k1.below hb6
     replace BR0:=BR0.below hb6
     replace B10:=B10.below hb6
     replace k10s:=k10s.below hb6
     replace k10:=k10.below hb6
     replace kg:=kg.below hb6
     replace n6:=n6.below hb6
     replace n8:=n8.below hb6
     replace bb:=bb.trans (hb6.mono bb.size)
     have hsz6:=bb.size
     have s_4:=sB
     have s_5:=sB
     obtain ⟨A49,c49,rfl,_⟩:=id q5
     have n49:=q5
     have n49f:=f5
     have n49z_:=s_5
     have BA11:=B6
     obtain ⟨u4,rfl,q4⟩:=q4
     obtain ⟨A11,c11,rfl,_⟩:=id q4
     refine zG8 (i:=7) rfl rfl rfl rfl rfl rfl (cells:=[.bool (ngB U),.slice A11 (digs 4294967296 (U).natAbs).length c11]) rfl BA11 rfl (by kernel_rfl) (zH8 rfl rfl) fun w7 hg7 BN7 => ?_
     replace q4:=off q4 BA11 no_ints2 hg7
     replace kg:=off kg BA11 no_ints2 hg7
     replace n6:=off n6 BA11 no_ints2 hg7
     replace n8:=off n8 BA11 no_ints2 hg7
     replace n49:=off n49 BA11 no_ints2 hg7
     replace k0s:=off k0s BA11 no_ints2 hg7
     replace k0d:=off k0d BA11 no_ints2 hg7
     replace k0z : IsZ w7 (.agg #[.bool (ngB (x).num),.slice A0 (digs 4294967296 (x).num.natAbs).length c0]) ((x).num):=⟨_,rfl,k0s⟩
     replace k0 : IsQ w7 (.agg #[.bool (ngB (x).num),.slice A0 (digs 4294967296 (x).num.natAbs).length c0,.slice D0 (digs 4294967296 (x).den).length e0]) (x):=⟨_,_,rfl,k0s,k0d⟩
     replace B0:=B0.grown hg7 (by omega)
     replace k1s:=off k1s BA11 no_ints2 hg7
     replace k1d:=off k1d BA11 no_ints2 hg7
     replace k1z : IsZ w7 (.agg #[.bool (ngB (y).num),.slice A1 (digs 4294967296 (y).num.natAbs).length c1]) ((y).num):=⟨_,rfl,k1s⟩
     replace k1 : IsQ w7 (.agg #[.bool (ngB (y).num),.slice A1 (digs 4294967296 (y).num.natAbs).length c1,.slice D1 (digs 4294967296 (y).den).length e1]) (y):=⟨_,_,rfl,k1s,k1d⟩
     replace B1:=B1.grown hg7 (by omega)
     replace BR0:=BR0.grown hg7 (by omega)
     replace k10s:=off k10s BA11 no_ints2 hg7
     replace k10 : IsZ w7 (.agg #[.bool (ngB S),.slice A10 (digs 4294967296 (S).natAbs).length c10]) (S):=⟨_,rfl,k10s⟩
     replace B10:=B10.grown hg7 (by omega)
     replace bb:=bb.trans ((Below.refl _ _).grown hg7 bb.size (fun g hg => by injection hg with hg; omega))
     have hsz7:=bb.size
     have B11 : Blk w7 (g40_6) _ _:=BN7
     have k11s:=q4
     have k11 : IsZ w7 (.agg #[.bool (ngB U),.slice A11 (digs 4294967296 (U).natAbs).length c11]) (U):=⟨_,rfl,k11s⟩
     refine zP7 (i:=8) (.slice A49 (digs 4294967296 L).length c49) rfl rfl rfl rfl rfl fun b hbf => ?_
     simp only [Act.put,zA0,zA2,zA1] at hbf
     subst hbf
     refine zD ?_
     have f11_:=(f4 _ _ rfl).mono s_4
     have sB:=bb.size
     go_upto_region 6 with (fail)
     refine flow 7 [Pd.eq (.agg #[.bool (ngB U),.slice A11 (digs 4294967296 (U).natAbs).length c11]),Pd.eq (.slice A6 (digs 4294967296 m1).length c6),Pd.eq (.slice A8 (digs 4294967296 m2).length c8),ps .u64 (digs 4294967296 (m1 * m2)) w7.heap.size,Pd.eq (.slice A49 (digs 4294967296 L).length c49),ps .u64 (digs 4294967296 ((m1 * m2) * L)) w7.heap.size,pbq (ngB U) (.slice A11 (digs 4294967296 (U).natAbs).length c11) (digs 4294967296 ((m1 * m2) * L)) w7.heap.size] (by kernel_rfl) (by kernel_rfl) ?ob41 ?done41
     case ob41 =>
      refine zA (zC rfl (zB6 rfl) (zB8 rfl rfl) (fun w2 hb => zF8 Tryz.underlying60 rfl (by kernel_rfl) (B11.drew.below hb)) (fun _ _ => rfl)) ?_
      refine zA (zC2 rfl (zB6 rfl) (zB8 rfl rfl) (fun _ _ h => h)) ?_
      refine zA (zC2 rfl (zB6 rfl) (zB8 rfl rfl) (fun _ _ h => h)) ?_
      refine zA (zD4 rfl Tryz.func152 (by kernel_rfl) (zB6 rfl) (zB7 (j:=1) (by kernel_rfl) rfl rfl) (zB7 (j:=2) (by kernel_rfl) rfl rfl) (fun w2 u0 u1 hb h0 h1 => by obtain rfl:=h0; obtain rfl:=h1; exact (qP1 _ m1 _ m2 _ (n6.drew.below hb) (n8.drew.below hb) (zB4 la (by decide)) (zB4 lb (by decide))).mono fun e w3 h => zD1.pd h hb.size)) ?_
      refine zA (zC2 rfl (zB6 rfl) (zB8 rfl rfl) (fun _ _ h => h)) ?_
      refine zA (zD4 rfl Tryz.func152 (by kernel_rfl) (zB6 rfl) (zB7 (j:=3) (by kernel_rfl) rfl rfl) (zB7 (j:=4) (by kernel_rfl) rfl rfl) (fun w2 u0 u1 hb h0 h1 => by obtain rfl:=h1; exact (qP1 _ (m1 * m2) _ L _ h0.1 (n49.drew.below hb) (zB4 lab (by decide)) (zB4 lL (by decide))).mono fun e w3 h => zD1.pd h hb.size)) ?_
      refine zA (zL3 rfl (zB6 rfl) (zB7 (j:=0) (by kernel_rfl) rfl rfl) (zB7 (j:=5) (by kernel_rfl) rfl rfl) (fun w2 u v hb hu hv => by obtain rfl:=hu; obtain ⟨A7,c7,rfl,_⟩:=id hv.1; exact ⟨.agg #[.bool (ngB U),.slice A11 (digs 4294967296 (U).natAbs).length c11,.slice A7 (digs 4294967296 ((m1 * m2) * L)).length c7],by kernel_rfl,⟨A7,c7,rfl,hv.1,hv.2⟩⟩)) ?_
      trivial
     case done41 =>
      refine fun w8 hb8 v0 h0 v1 h1 v2 h2 v3 h3 v4 h4 v5 h5 v6 h6 b hbf => ?_
      obtain rfl:=h0; obtain rfl:=h1; obtain rfl:=h2; obtain rfl:=h4
      obtain ⟨q3,f3⟩:=h3
      obtain ⟨q5,f5⟩:=h5
      have q6:=h6; have s9_:=sB
      simp only [Act.put,zA0,zA2,zA1] at hbf
      subst hbf
      replace B0:=B0.below hb8
      replace k0s:=k0s.below hb8
      replace k0d:=k0d.below hb8
      replace k0z:=k0z.below hb8
      replace k0:=k0.below hb8
      replace B1:=B1.below hb8
      replace k1s:=k1s.below hb8
      replace k1d:=k1d.below hb8
      replace k1z:=k1z.below hb8
      replace k1:=k1.below hb8
      replace BR0:=BR0.below hb8
      replace B10:=B10.below hb8
      replace k10s:=k10s.below hb8
      replace k10:=k10.below hb8
      replace B11:=B11.below hb8
      replace k11s:=k11s.below hb8
      replace k11:=k11.below hb8
      replace kg:=kg.below hb8
      replace n6:=n6.below hb8
      replace n8:=n8.below hb8
      replace n49:=n49.below hb8
      replace bb:=bb.trans (hb8.mono bb.size)
      have hsz8:=bb.size
      have s_3:=sB
      have s_5:=sB
      obtain ⟨A9,c9,rfl,q9,f9⟩:=q6
      refine zK4 (i:=7) (by kernel_rfl) rfl rfl rfl rfl rfl rfl (cells:=[.bool (ngB U),.slice A11 (digs 4294967296 (U).natAbs).length c11,.slice A9 (digs 4294967296 ((m1 * m2) * L)).length c9]) rfl BR0 rfl (by kernel_rfl) (zI3 rfl rfl rfl) fun w9 hg9 B9 => ?_
      have k9:=off k11s BR0 zE hg9
      have d9:=off q9 BR0 zE hg9
      have bb9:=bb.trans ((Below.refl _ _).grown hg9 bb.size (fun g hg => by injection hg with hg; omega))
      obtain ⟨C0,C1,C2,_,_,_⟩:=three B9
      refine zI2 (by kernel_rfl) ?_
      go_wp2
      rw [HQ0.out]
      exact bodyPost_ret (v:=.agg #[.bool (ngB U),.slice A11 (digs 4294967296 (U).natAbs).length c11,.slice A9 (digs 4294967296 ((m1 * m2) * L)).length c9]) (by simp [results,Tryz.results175,go_sem,C0,C1,C2]) rfl ⟨_,rfl,zU7 k9 d9 (by rw [HQN.out]) (by rw [HQN.out]) HQD.out,zL2 f11_ (f9.mono s9_),bb9⟩
theorem yX3 (a0 : Value) (x : Rat) (a1 : Value) (y : Rat) (w : World) (h0 : IsQ w a0 x) (h1 : IsQ w a1 y) (hl : zC7 x 4900) (hl2 : zC7 y 4900) :
  Calls Tryz.prog 180 #[a0,a1] w (RetQ (x - y) w):=by
 obtain ⟨u0,t0,rfl,s0,r0⟩:=h0
 obtain ⟨A0,c0,rfl,_⟩:=id s0
 obtain ⟨D0,e0,rfl,_⟩:=id r0
 obtain ⟨u1,t1,rfl,s1,r1⟩:=h1
 obtain ⟨A1,c1,rfl,_⟩:=id s1
 obtain ⟨D1,e1,rfl,_⟩:=id r1
 have HS : Hid (x + -y = x - y):=(Rat.sub_eq_add_neg x y).symm
 go_enter Tryz.func180,Tryz.ntmps180
 go_upto_region 1 with (fail)
 obtain ⟨wx,hwx,bb,B0,B1,BR0,hsz⟩:=zN7 w 83 83 83 #[.bool (ngB (x).num),.slice A0 (digs 4294967296 (x).num.natAbs).length c0,.slice D0 (digs 4294967296 (x).den).length e0] #[.bool (ngB (y).num),.slice A1 (digs 4294967296 (y).num.natAbs).length c1,.slice D1 (digs 4294967296 (y).den).length e1] #[.bool false,.slice none 0 0,.slice none 0 0]
 rw [hwx]
 clear hwx
 have k0s:=s0.below bb
 have k0d:=r0.below bb
 have k0z : IsZ wx (.agg #[.bool (ngB (x).num),.slice A0 (digs 4294967296 (x).num.natAbs).length c0]) (x).num:=⟨_,rfl,k0s⟩
 have k0 : IsQ wx (.agg #[.bool (ngB (x).num),.slice A0 (digs 4294967296 (x).num.natAbs).length c0,.slice D0 (digs 4294967296 (x).den).length e0]) (x):=⟨_,_,rfl,k0s,k0d⟩
 have k1s:=s1.below bb
 have k1d:=r1.below bb
 have k1z : IsZ wx (.agg #[.bool (ngB (y).num),.slice A1 (digs 4294967296 (y).num.natAbs).length c1]) (y).num:=⟨_,rfl,k1s⟩
 have k1 : IsQ wx (.agg #[.bool (ngB (y).num),.slice A1 (digs 4294967296 (y).num.natAbs).length c1,.slice D1 (digs 4294967296 (y).den).length e1]) (y):=⟨_,_,rfl,k1s,k1d⟩
 have hsz0:=bb.size
 have sB:=bb.size
 refine flow 4 [Pd.eq (.agg #[.bool (ngB (x).num),.slice A0 (digs 4294967296 (x).num.natAbs).length c0,.slice D0 (digs 4294967296 (x).den).length e0]),Pd.eq (.agg #[.bool (ngB (y).num),.slice A1 (digs 4294967296 (y).num.natAbs).length c1,.slice D1 (digs 4294967296 (y).den).length e1]),pq (-y) wx.heap.size,pq (x - y) wx.heap.size] (by kernel_rfl) (by kernel_rfl) ?ob42 ?done42
 case ob42 =>
  refine zA (zC rfl (zB6 rfl) (zB8 rfl rfl) (fun w2 hb => zF8 Tryz.underlying83 rfl (by kernel_rfl) (B0.drew.below hb)) (fun _ _ => rfl)) ?_
  refine zA (zC rfl (zB6 rfl) (zB8 rfl rfl) (fun w2 hb => zF8 Tryz.underlying83 rfl (by kernel_rfl) (B1.drew.below hb)) (fun _ _ => rfl)) ?_
  refine zA (zF rfl Tryz.func126 (by kernel_rfl) (zB6 rfl) (zB7 (j:=1) (by kernel_rfl) rfl rfl) (fun w2 u0 hb h0 => by obtain rfl:=h0; exact (yB6 _ y _ (k1.drew.below hb) (hl2.mono (by decide))).mono fun e w3 h => RetQ.pd h hb.size)) ?_
  refine zA (zD4 rfl Tryz.func175 (by kernel_rfl) (zB6 rfl) (zB7 (j:=0) (by kernel_rfl) rfl rfl) (zB7 (j:=2) (by kernel_rfl) rfl rfl) (fun w2 u0 u1 hb h0 h1 => by obtain rfl:=h0; exact (HS.out ▸ yX2 _ x _ (-y) _ (k0.drew.below hb) h1.1 hl (qZ7 hl2)).mono fun e w3 h => RetQ.pd h hb.size)) ?_
  trivial
 case done42 =>
  refine fun w11 hb11 v0 h0 v1 h1 v2 h2 v3 h3 b hbf => ?_
  obtain rfl:=h0; obtain rfl:=h1
  obtain ⟨q2,f2⟩:=h2
  obtain ⟨q3,f3⟩:=h3
  simp only [Act.put,zA0,zA2,zA1] at hbf
  subst hbf
  replace B0:=B0.below hb11
  replace k0s:=k0s.below hb11
  replace k0d:=k0d.below hb11
  replace k0z:=k0z.below hb11
  replace k0:=k0.below hb11
  replace B1:=B1.below hb11
  replace k1s:=k1s.below hb11
  replace k1d:=k1d.below hb11
  replace k1z:=k1z.below hb11
  replace k1:=k1.below hb11
  replace BR0:=BR0.below hb11
  replace bb:=bb.trans (hb11.mono bb.size)
  have hsz11:=bb.size
  have s_2:=sB
  have s_3:=sB
  obtain ⟨u3,t3,rfl,q3,d3⟩:=q3
  obtain ⟨A9,c9,rfl,_⟩:=id q3
  obtain ⟨D9,e9,rfl,_⟩:=id d3
  refine zK4 (i:=4) (by kernel_rfl) rfl rfl rfl rfl rfl rfl (cells:=[.bool (ngB (x - y).num),.slice A9 (digs 4294967296 (x - y).num.natAbs).length c9,.slice D9 (digs 4294967296 (x - y).den).length e9]) rfl BR0 rfl (by kernel_rfl) (zI3 rfl rfl rfl) fun w9 hg9 B9 => ?_
  have k9:=off q3 BR0 zE hg9
  have d9:=off d3 BR0 zE hg9
  have f9:=f3.mono (show w.heap.size <= _ from s_3)
  have bb9:=bb.trans ((Below.refl _ _).grown hg9 bb.size (fun g hg => by injection hg with hg; omega))
  obtain ⟨C0,C1,C2,_,_,_⟩:=three B9
  refine zI2 (by kernel_rfl) ?_
  go_wp2
  exact bodyPost_ret (v:=.agg #[.bool (ngB (x - y).num),.slice A9 (digs 4294967296 (x - y).num.natAbs).length c9,.slice D9 (digs 4294967296 (x - y).den).length e9]) (by simp [results,Tryz.results180,go_sem,C0,C1,C2]) rfl ⟨_,rfl,⟨_,_,rfl,k9,d9⟩,f9,bb9⟩
theorem yD6 (a0 : Value) (n : Int) (a1 : Value) (d : Int) (w : World) (h0 : IsZ w a0 n) (h1 : IsZ w a1 d) (hl : zC1 n <= 1000) (hl2 : zC1 d <= 1000) (hd : d ≠ 0) :
    Calls Tryz.prog 77 #[a0,a1] w (zT1 (Rat.divInt n d) 0 w):=by
  rcases hs1 : ngB d with _ | _
  · obtain ⟨u0, rfl, s0⟩ := h0
    obtain ⟨A0,c0,rfl,_⟩:=id s0
    obtain ⟨u1,rfl,s1⟩:=h1
    obtain ⟨A1,c1,rfl,_⟩:=id s1
    have HDN : Hid (d.natAbs ≠ 0):=by show _ ≠ _; omega
    obtain ⟨U,hU⟩ : ∃ U,U = (mkRat n d.natAbs).num:=⟨_,rfl⟩
    obtain ⟨L,hL⟩ : ∃ L,L = (mkRat n d.natAbs).den:=⟨_,rfl⟩
    have HUL : Hid (zC1 U <= 1000):=by show _ <= _; rw [hU]; exact (zR HDN.out hl hl2).1
    have HU:=Lib.hid hU
    have HL:=Lib.hid hL
    obtain ⟨Q,hQ⟩ : ∃ Q,Q = Rat.divInt n d:=⟨_,rfl⟩
    have HQ0 : Hid (Rat.divInt n d = Q):=hQ.symm
    have HQ : Hid (Q = mkRat n d.natAbs):=by show _ = _; rw [hQ]; exact qZ5 (by have:=zX hs1; omega)
    have HQN : Hid (Q.num = U):=by show _ = _; rw [HQ.out,<- hU]
    have HQD : Hid (Q.den = L):=by show _ = _; rw [HQ.out,<- hL]
    have HS : Hid ((1 : Int) = zJ5 d 0):=(qC8 (by have:=zX hs1; omega)).symm
    clear hU hL hQ
    go_enter Tryz.func77,Tryz.ntmps77
    go_upto_region 1 with (fail)
    obtain ⟨wx,hwx,bb,B0,B1,BR0,hsz⟩:=zN7 w 60 60 83 #[.bool (ngB n),.slice A0 (digs 4294967296 (n).natAbs).length c0] #[.bool false,.slice A1 (digs 4294967296 (d).natAbs).length c1] #[.bool false,.slice none 0 0,.slice none 0 0]
    rw [hwx]
    clear hwx
    have k0s:=s0.below bb
    have k0 : IsZ wx (.agg #[.bool (ngB n),.slice A0 (digs 4294967296 (n).natAbs).length c0]) (n):=zF4 k0s rfl rfl
    have k1s:=s1.below bb
    have k1 : IsZ wx (.agg #[.bool false,.slice A1 (digs 4294967296 (d).natAbs).length c1]) (d):=zF4 k1s rfl hs1.symm
    have hsz0:=bb.size
    have sB:=bb.size
    refine zC9 3 [Pd.eq (.agg #[.bool false,.slice A1 (digs 4294967296 (d).natAbs).length c1]),Pd.eq (.int .i64 1),Pd.eq (.bool false)] (by kernel_rfl) ?ob8 ?done8
    case ob8 =>
      refine zA (zC rfl (zB6 rfl) (zB8 rfl rfl) (fun w2 hb => zF8 Tryz.underlying60 rfl (by kernel_rfl) (B1.below hb)) (fun _ _ => rfl)) ?_
      refine zA (zF rfl Tryz.func74 (by kernel_rfl) (zB6 rfl) (zB7 (j:=0) (by kernel_rfl) rfl rfl) (fun w2 u0 hb h0 => by obtain rfl:=h0; exact (zZ9 _ d 1 _ (k1.below hb) HS.out).mono fun e w3 h => zD8.pd h)) ?_
      refine zA (zG4 rfl (zB6 rfl) (zB7 (j:=1) (by kernel_rfl) rfl rfl) (zH7 _) (fun _ _ _ hx hy => ⟨.bool ((1 : Int) == 0),by rw [hx,hy]; exact zP6 _ _ _ _ _,congrArg Value.bool (by decide)⟩)) ?_
      trivial
    case done8 =>
      refine fun w1 hb1 v0 h0 v1 h1 v2 h2 b hbf => ?_
      obtain rfl:=h0; obtain rfl:=h1; obtain rfl:=h2
      simp only [Act.put,zA0,zA2,zA1] at hbf
      subst hbf
      replace B0:=B0.below hb1
      replace k0s:=k0s.below hb1
      replace k0:=k0.below hb1
      replace B1:=B1.below hb1
      replace k1s:=k1s.below hb1
      replace k1:=k1.below hb1
      replace BR0:=BR0.below hb1
      replace bb:=bb.trans (hb1.mono bb.size)
      have hsz1:=bb.size
      refine zD ?_
      have sB:=bb.size
      go_upto_region 3 with (fail)
      have lt1_2:=Blk.lt B0
      have lt1_3:=Blk.lt B1
      have lt1_4:=Blk.lt BR0
      refine zC9 8 [Pd.eq (.agg #[.bool (ngB n),.slice A0 (digs 4294967296 (n).natAbs).length c0]),Pd.eq (.pointer (some ⟨w.heap.size + 1,1,none⟩)),Pd.eq (.slice A1 (digs 4294967296 (d).natAbs).length c1),pzs (U) (L) w1.heap.size,pzs (U) (L) w1.heap.size,pz (U) w1.heap.size,ps .u64 (digs 4294967296 L) w1.heap.size,pn 60 #[.bool false,.slice none 0 0] w1.heap.size] (by kernel_rfl) ?ob9 ?done9
      case ob9 =>
        refine zA (zC rfl (zB6 rfl) (zB8 rfl rfl) (fun w2 hb => zF8 Tryz.underlying60 rfl (by kernel_rfl) (B0.below hb)) (fun _ _ => rfl)) ?_
        refine zA (zC3 rfl (zB6 rfl) (zB8 rfl rfl) (fun _ => by kernel_rfl) (fun _ => rfl)) ?_
        refine zA (zC rfl (zB6 rfl) (zB7 (j:=1) (by kernel_rfl) rfl rfl) (fun w2 hb => zC5 Tryz.underlying50 rfl ((B1.below hb).cell 1)) (fun _ _ => rfl)) ?_
        refine zA (zD4 rfl Tryz.func120 (by kernel_rfl) (zB6 rfl) (zB7 (j:=0) (by kernel_rfl) rfl rfl) (zB7 (j:=2) (by kernel_rfl) rfl rfl) (fun w2 u0 u1 hb h0 h1 => by obtain rfl:=h0; obtain rfl:=h1; exact (qE _ n _ d.natAbs U L _ (k0.below hb) (k1s.below hb) HDN.out (zB4 hl (by decide)) (zB4 hl2 (by decide)) HU.out HL.out).mono fun e w3 h => zU9.pd h hb.size)) ?_
        refine zA (zC2 rfl (zB6 rfl) (zB7 (j:=3) (by kernel_rfl) rfl rfl) (fun _ _ h => h)) ?_
        refine zA (zG7 rfl (zB6 rfl) (zB7 (j:=4) (by kernel_rfl) rfl rfl) (fun w2 u hu => by obtain ⟨v,u,rfl,q1,q2,q3,q4⟩:=hu; exact ⟨v,rfl,q1,q3⟩)) ?_
        refine zA (zG7 rfl (zB6 rfl) (zB7 (j:=4) (by kernel_rfl) rfl rfl) (fun w2 u hu => by obtain ⟨v,u,rfl,q1,q2,q3,q4⟩:=hu; exact ⟨u,rfl,q2,q4⟩)) ?_
        refine zA (zN6 (z:=.agg #[.bool false,.slice none 0 0]) rfl rfl (fun _ => by kernel_rfl) (fun _ _ hB h => ⟨_,rfl,hB,h⟩)) ?_
        trivial
      case done9 =>
        refine fun w2 hb2 v0 h0 v1 h1 v2 h2 v3 h3 v4 h4 v5 h5 v6 h6 v7 h7 d7 b hbf => ?_
        obtain rfl:=h0; obtain rfl:=h1; obtain rfl:=h2
        clear h3
        clear h4
        obtain ⟨q5,f5⟩:=h5
        obtain ⟨q6,f6⟩:=h6
        obtain ⟨g9_7,rfl,hg7,B7⟩:=h7
        simp only [Act.put,zA0,zA2,zA1] at hbf
        subst hbf
        replace B0:=B0.below hb2
        replace k0s:=k0s.below hb2
        replace k0:=k0.below hb2
        replace B1:=B1.below hb2
        replace k1s:=k1s.below hb2
        replace k1:=k1.below hb2
        replace BR0:=BR0.below hb2
        replace bb:=bb.trans (hb2.mono bb.size)
        have hsz2:=bb.size
        have s_5:=sB
        have s_6:=sB
        obtain ⟨A18,c18,rfl,_⟩:=id q6
        have n18:=q6
        have n18f:=f6
        have n18z_:=s_6
        have BA6:=B7
        obtain ⟨u5,rfl,q5⟩:=q5
        obtain ⟨A6,c6,rfl,_⟩:=id q5
        refine zG8 (i:=8) rfl rfl rfl rfl rfl rfl (cells:=[.bool (ngB U),.slice A6 (digs 4294967296 (U).natAbs).length c6]) rfl BA6 rfl (by kernel_rfl) (zH8 rfl rfl) fun w3 hg3 BN3 => ?_
        replace q5:=off q5 BA6 no_ints2 hg3
        replace n18:=off n18 BA6 no_ints2 hg3
        replace k0s:=off k0s BA6 no_ints2 hg3
        replace k0 : IsZ w3 (.agg #[.bool (ngB n),.slice A0 (digs 4294967296 (n).natAbs).length c0]) (n):=⟨_,rfl,k0s⟩
        replace B0:=B0.grown hg3 (by omega)
        replace k1s:=off k1s BA6 no_ints2 hg3
        replace k1 : IsZ w3 (.agg #[.bool false,.slice A1 (digs 4294967296 (d).natAbs).length c1]) (d):=zF4 k1s rfl hs1.symm
        replace B1:=B1.grown hg3 (by omega)
        replace BR0:=BR0.grown hg3 (by omega)
        replace bb:=bb.trans ((Below.refl _ _).grown hg3 bb.size (fun g hg => by injection hg with hg; omega))
        have hsz3:=bb.size
        have B6 : Blk w3 (g9_7) _ _:=BN3
        have k6s:=q5
        have k6 : IsZ w3 (.agg #[.bool (ngB U),.slice A6 (digs 4294967296 (U).natAbs).length c6]) (U):=⟨_,rfl,k6s⟩
        refine zP7 (i:=9) (.slice A18 (digs 4294967296 L).length c18) rfl rfl rfl rfl rfl fun b hbf => ?_
        simp only [Act.put,zA0,zA2,zA1] at hbf
        subst hbf
        refine zD ?_
        have f6_:=(f5 _ _ rfl).mono s_5
        have sB:=bb.size
        go_upto_region 4 with (fail)
        refine zC9 2 [Pd.eq (.pointer (some ⟨w.heap.size + 1,0,none⟩)),Pd.eq (.bool false)] (by kernel_rfl) ?ob10 ?done10
        case ob10 =>
          refine zA (zC3 rfl (zB6 rfl) (zB8 rfl rfl) (fun _ => by kernel_rfl) (fun _ => rfl)) ?_
          refine zA (zC rfl (zB6 rfl) (zB7 (j:=0) (by kernel_rfl) rfl rfl) (fun w2 hb => zC5 Tryz.underlying4 rfl ((B1.below hb).cell 0)) (fun _ _ => rfl)) ?_
          trivial
        case done10 =>
          refine fun w4 hb4 v0 h0 v1 h1 b hbf => ?_
          obtain rfl:=h0; obtain rfl:=h1
          simp only [Act.put,zA0,zA2,zA1] at hbf
          subst hbf
          replace B0:=B0.below hb4
          replace k0s:=k0s.below hb4
          replace k0:=k0.below hb4
          replace B1:=B1.below hb4
          replace k1s:=k1s.below hb4
          replace k1:=k1.below hb4
          replace BR0:=BR0.below hb4
          replace B6:=B6.below hb4
          replace k6s:=k6s.below hb4
          replace k6:=k6.below hb4
          replace n18:=n18.below hb4
          replace bb:=bb.trans (hb4.mono bb.size)
          have hsz4:=bb.size
          refine zD ?_
          have sB:=bb.size
          go_upto_region 6 with (fail)
          refine zC9 3 [Pd.eq (.agg #[.bool (ngB U),.slice A6 (digs 4294967296 (U).natAbs).length c6]),Pd.eq (.slice A18 (digs 4294967296 L).length c18),Pd.eq (.agg #[.bool (ngB U),.slice A6 (digs 4294967296 (U).natAbs).length c6,.slice A18 (digs 4294967296 L).length c18])] (by kernel_rfl) ?ob11 ?done11
          case ob11 =>
            refine zA (zC rfl (zB6 rfl) (zB8 rfl rfl) (fun w2 hb => zF8 Tryz.underlying60 rfl (by kernel_rfl) (B6.below hb)) (fun _ _ => rfl)) ?_
            refine zA (zC2 rfl (zB6 rfl) (zB8 rfl rfl) (fun _ _ h => h)) ?_
            refine zA (zL3 rfl (zB6 rfl) (zB7 (j:=0) (by kernel_rfl) rfl rfl) (zB7 (j:=1) (by kernel_rfl) rfl rfl) (fun w2 u v hb hu hv => by obtain rfl:=hu; obtain rfl:=hv; exact ⟨.agg #[.bool (ngB U),.slice A6 (digs 4294967296 (U).natAbs).length c6,.slice A18 (digs 4294967296 L).length c18],by kernel_rfl,rfl⟩)) ?_
            trivial
          case done11 =>
            refine fun w5 hb5 v0 h0 v1 h1 v2 h2 b hbf => ?_
            obtain rfl:=h0; obtain rfl:=h1; obtain rfl:=h2
            simp only [Act.put,zA0,zA2,zA1] at hbf
            subst hbf
            replace B0:=B0.below hb5
            replace k0s:=k0s.below hb5
            replace k0:=k0.below hb5
            replace B1:=B1.below hb5
            replace k1s:=k1s.below hb5
            replace k1:=k1.below hb5
            replace BR0:=BR0.below hb5
            replace B6:=B6.below hb5
            replace k6s:=k6s.below hb5
            replace k6:=k6.below hb5
            replace n18:=n18.below hb5
            replace bb:=bb.trans (hb5.mono bb.size)
            have hsz5:=bb.size
            refine zG8 (i:=3) rfl rfl rfl rfl rfl rfl (cells:=[.bool (ngB U),.slice A6 (digs 4294967296 (U).natAbs).length c6,.slice A18 (digs 4294967296 L).length c18]) rfl BR0 rfl (by kernel_rfl) (zI3 rfl rfl rfl) fun w9 hg9 B9 => ?_
            have k9:=off k6s BR0 zE hg9
            have d9:=off n18 BR0 zE hg9
            have bb9:=bb.trans ((Below.refl _ _).grown hg9 bb.size (fun g hg => by injection hg with hg; omega))
            obtain ⟨C0,C1,C2,_,_,_⟩:=three B9
            refine zP7 (i:=4) (.int .i64 0) rfl rfl rfl rfl rfl fun b hbf => ?_
            simp only [Act.put,zA0,zA2,zA1] at hbf
            subst hbf
            refine zD ?_
            go_wp2
            rw [HQ0.out]
            exact bodyPost_ret (v:=.tuple #[.agg #[.bool (ngB U),.slice A6 (digs 4294967296 (U).natAbs).length c6,.slice A18 (digs 4294967296 L).length c18],.int .i64 0]) (by simp [results,Tryz.results77,go_sem,C0,C1,C2]) rfl ⟨_,rfl,zU7 k9 d9 (by rw [HQN.out]) (by rw [HQN.out]) HQD.out,zL2 f6_ (n18f.mono n18z_),bb9⟩
  · obtain ⟨u0, rfl, s0⟩ := h0
    obtain ⟨A0,c0,rfl,_⟩:=id s0
    obtain ⟨u1,rfl,s1⟩:=h1
    obtain ⟨A1,c1,rfl,_⟩:=id s1
    have HDN : Hid (d.natAbs ≠ 0):=by show _ ≠ _; omega
    obtain ⟨U,hU⟩ : ∃ U,U = (mkRat n d.natAbs).num:=⟨_,rfl⟩
    obtain ⟨L,hL⟩ : ∃ L,L = (mkRat n d.natAbs).den:=⟨_,rfl⟩
    have HUL : Hid (zC1 U <= 1000):=by show _ <= _; rw [hU]; exact (zR HDN.out hl hl2).1
    have HU:=Lib.hid hU
    have HL:=Lib.hid hL
    obtain ⟨Q,hQ⟩ : ∃ Q,Q = Rat.divInt n d:=⟨_,rfl⟩
    have HQ0 : Hid (Rat.divInt n d = Q):=hQ.symm
    have HQ : Hid (Q = -mkRat n d.natAbs):=by show _ = _; rw [hQ,qZ4 (zU4 hs1)]; exact yU3 n d.natAbs HDN.out
    have HQN : Hid (Q.num = -U):=by show _ = _; rw [HQ.out,(zZ6 _).1,<- hU]
    have HQD : Hid (Q.den = L):=by show _ = _; rw [HQ.out,(zZ6 _).2,<- hL]
    have HS : Hid ((-1 : Int) = zJ5 d 0):=(qC7 (zU4 hs1)).symm
    clear hU hL hQ
    go_enter Tryz.func77,Tryz.ntmps77
    go_upto_region 1 with (fail)
    obtain ⟨wx,hwx,bb,B0,B1,BR0,hsz⟩:=zN7 w 60 60 83 #[.bool (ngB n),.slice A0 (digs 4294967296 (n).natAbs).length c0] #[.bool true,.slice A1 (digs 4294967296 (d).natAbs).length c1] #[.bool false,.slice none 0 0,.slice none 0 0]
    rw [hwx]
    clear hwx
    have k0s:=s0.below bb
    have k0 : IsZ wx (.agg #[.bool (ngB n),.slice A0 (digs 4294967296 (n).natAbs).length c0]) (n):=zF4 k0s rfl rfl
    have k1s:=s1.below bb
    have k1 : IsZ wx (.agg #[.bool true,.slice A1 (digs 4294967296 (d).natAbs).length c1]) (d):=zF4 k1s rfl hs1.symm
    have hsz0:=bb.size
    have sB:=bb.size
    refine zC9 3 [Pd.eq (.agg #[.bool true,.slice A1 (digs 4294967296 (d).natAbs).length c1]),Pd.eq (.int .i64 (-1)),Pd.eq (.bool false)] (by kernel_rfl) ?ob12 ?done12
    case ob12 =>
      refine zA (zC rfl (zB6 rfl) (zB8 rfl rfl) (fun w2 hb => zF8 Tryz.underlying60 rfl (by kernel_rfl) (B1.below hb)) (fun _ _ => rfl)) ?_
      refine zA (zF rfl Tryz.func74 (by kernel_rfl) (zB6 rfl) (zB7 (j:=0) (by kernel_rfl) rfl rfl) (fun w2 u0 hb h0 => by obtain rfl:=h0; exact (zZ9 _ d (-1) _ (k1.below hb) HS.out).mono fun e w3 h => zD8.pd h)) ?_
      refine zA (zG4 rfl (zB6 rfl) (zB7 (j:=1) (by kernel_rfl) rfl rfl) (zH7 _) (fun _ _ _ hx hy => ⟨.bool ((-1 : Int) == 0),by rw [hx,hy]; exact zP6 _ _ _ _ _,congrArg Value.bool (by decide)⟩)) ?_
      trivial
    case done12 =>
      refine fun w1 hb1 v0 h0 v1 h1 v2 h2 b hbf => ?_
      obtain rfl:=h0; obtain rfl:=h1; obtain rfl:=h2
      simp only [Act.put,zA0,zA2,zA1] at hbf
      subst hbf
      replace B0:=B0.below hb1
      replace k0s:=k0s.below hb1
      replace k0:=k0.below hb1
      replace B1:=B1.below hb1
      replace k1s:=k1s.below hb1
      replace k1:=k1.below hb1
      replace BR0:=BR0.below hb1
      replace bb:=bb.trans (hb1.mono bb.size)
      have hsz1:=bb.size
      refine zD ?_
      have sB:=bb.size
      go_upto_region 3 with (fail)
      have lt1_2:=Blk.lt B0
      have lt1_3:=Blk.lt B1
      have lt1_4:=Blk.lt BR0
      refine zC9 8 [Pd.eq (.agg #[.bool (ngB n),.slice A0 (digs 4294967296 (n).natAbs).length c0]),Pd.eq (.pointer (some ⟨w.heap.size + 1,1,none⟩)),Pd.eq (.slice A1 (digs 4294967296 (d).natAbs).length c1),pzs (U) (L) w1.heap.size,pzs (U) (L) w1.heap.size,pz (U) w1.heap.size,ps .u64 (digs 4294967296 L) w1.heap.size,pn 60 #[.bool false,.slice none 0 0] w1.heap.size] (by kernel_rfl) ?ob13 ?done13
      case ob13 =>
        refine zA (zC rfl (zB6 rfl) (zB8 rfl rfl) (fun w2 hb => zF8 Tryz.underlying60 rfl (by kernel_rfl) (B0.below hb)) (fun _ _ => rfl)) ?_
        refine zA (zC3 rfl (zB6 rfl) (zB8 rfl rfl) (fun _ => by kernel_rfl) (fun _ => rfl)) ?_
        refine zA (zC rfl (zB6 rfl) (zB7 (j:=1) (by kernel_rfl) rfl rfl) (fun w2 hb => zC5 Tryz.underlying50 rfl ((B1.below hb).cell 1)) (fun _ _ => rfl)) ?_
        refine zA (zD4 rfl Tryz.func120 (by kernel_rfl) (zB6 rfl) (zB7 (j:=0) (by kernel_rfl) rfl rfl) (zB7 (j:=2) (by kernel_rfl) rfl rfl) (fun w2 u0 u1 hb h0 h1 => by obtain rfl:=h0; obtain rfl:=h1; exact (qE _ n _ d.natAbs U L _ (k0.below hb) (k1s.below hb) HDN.out (zB4 hl (by decide)) (zB4 hl2 (by decide)) HU.out HL.out).mono fun e w3 h => zU9.pd h hb.size)) ?_
        refine zA (zC2 rfl (zB6 rfl) (zB7 (j:=3) (by kernel_rfl) rfl rfl) (fun _ _ h => h)) ?_
        refine zA (zG7 rfl (zB6 rfl) (zB7 (j:=4) (by kernel_rfl) rfl rfl) (fun w2 u hu => by obtain ⟨v,u,rfl,q1,q2,q3,q4⟩:=hu; exact ⟨v,rfl,q1,q3⟩)) ?_
        refine zA (zG7 rfl (zB6 rfl) (zB7 (j:=4) (by kernel_rfl) rfl rfl) (fun w2 u hu => by obtain ⟨v,u,rfl,q1,q2,q3,q4⟩:=hu; exact ⟨u,rfl,q2,q4⟩)) ?_
        refine zA (zN6 (z:=.agg #[.bool false,.slice none 0 0]) rfl rfl (fun _ => by kernel_rfl) (fun _ _ hB h => ⟨_,rfl,hB,h⟩)) ?_
        trivial
      case done13 =>
        refine fun w2 hb2 v0 h0 v1 h1 v2 h2 v3 h3 v4 h4 v5 h5 v6 h6 v7 h7 d7 b hbf => ?_
        obtain rfl:=h0; obtain rfl:=h1; obtain rfl:=h2
        clear h3
        clear h4
        obtain ⟨q5,f5⟩:=h5
        obtain ⟨q6,f6⟩:=h6
        obtain ⟨g13_7,rfl,hg7,B7⟩:=h7
        simp only [Act.put,zA0,zA2,zA1] at hbf
        subst hbf
        replace B0:=B0.below hb2
        replace k0s:=k0s.below hb2
        replace k0:=k0.below hb2
        replace B1:=B1.below hb2
        replace k1s:=k1s.below hb2
        replace k1:=k1.below hb2
        replace BR0:=BR0.below hb2
        replace bb:=bb.trans (hb2.mono bb.size)
        have hsz2:=bb.size
        have s_5:=sB
        have s_6:=sB
        obtain ⟨A18,c18,rfl,_⟩:=id q6
        have n18:=q6
        have n18f:=f6
        have n18z_:=s_6
        have BA6:=B7
        obtain ⟨u5,rfl,q5⟩:=q5
        obtain ⟨A6,c6,rfl,_⟩:=id q5
        refine zG8 (i:=8) rfl rfl rfl rfl rfl rfl (cells:=[.bool (ngB U),.slice A6 (digs 4294967296 (U).natAbs).length c6]) rfl BA6 rfl (by kernel_rfl) (zH8 rfl rfl) fun w3 hg3 BN3 => ?_
        replace q5:=off q5 BA6 no_ints2 hg3
        replace n18:=off n18 BA6 no_ints2 hg3
        replace k0s:=off k0s BA6 no_ints2 hg3
        replace k0 : IsZ w3 (.agg #[.bool (ngB n),.slice A0 (digs 4294967296 (n).natAbs).length c0]) (n):=⟨_,rfl,k0s⟩
        replace B0:=B0.grown hg3 (by omega)
        replace k1s:=off k1s BA6 no_ints2 hg3
        replace k1 : IsZ w3 (.agg #[.bool true,.slice A1 (digs 4294967296 (d).natAbs).length c1]) (d):=zF4 k1s rfl hs1.symm
        replace B1:=B1.grown hg3 (by omega)
        replace BR0:=BR0.grown hg3 (by omega)
        replace bb:=bb.trans ((Below.refl _ _).grown hg3 bb.size (fun g hg => by injection hg with hg; omega))
        have hsz3:=bb.size
        have B6 : Blk w3 (g13_7) _ _:=BN3
        have k6s:=q5
        have k6 : IsZ w3 (.agg #[.bool (ngB U),.slice A6 (digs 4294967296 (U).natAbs).length c6]) (U):=⟨_,rfl,k6s⟩
        refine zP7 (i:=9) (.slice A18 (digs 4294967296 L).length c18) rfl rfl rfl rfl rfl fun b hbf => ?_
        simp only [Act.put,zA0,zA2,zA1] at hbf
        subst hbf
        refine zD ?_
        have f6_:=(f5 _ _ rfl).mono s_5
        have sB:=bb.size
        go_upto_region 4 with (fail)
        refine zC9 2 [Pd.eq (.pointer (some ⟨w.heap.size + 1,0,none⟩)),Pd.eq (.bool true)] (by kernel_rfl) ?ob14 ?done14
        case ob14 =>
          refine zA (zC3 rfl (zB6 rfl) (zB8 rfl rfl) (fun _ => by kernel_rfl) (fun _ => rfl)) ?_
          refine zA (zC rfl (zB6 rfl) (zB7 (j:=0) (by kernel_rfl) rfl rfl) (fun w2 hb => zC5 Tryz.underlying4 rfl ((B1.below hb).cell 0)) (fun _ _ => rfl)) ?_
          trivial
        case done14 =>
          refine fun w4 hb4 v0 h0 v1 h1 b hbf => ?_
          obtain rfl:=h0; obtain rfl:=h1
          simp only [Act.put,zA0,zA2,zA1] at hbf
          subst hbf
          replace B0:=B0.below hb4
          replace k0s:=k0s.below hb4
          replace k0:=k0.below hb4
          replace B1:=B1.below hb4
          replace k1s:=k1s.below hb4
          replace k1:=k1.below hb4
          replace BR0:=BR0.below hb4
          replace B6:=B6.below hb4
          replace k6s:=k6s.below hb4
          replace k6:=k6.below hb4
          replace n18:=n18.below hb4
          replace bb:=bb.trans (hb4.mono bb.size)
          have hsz4:=bb.size
          refine zD ?_
          have sB:=bb.size
          go_upto_region 5 with (fail)
          refine zC9 2 [Pd.eq (.agg #[.bool (ngB U),.slice A6 (digs 4294967296 (U).natAbs).length c6]),pz ((-U)) w4.heap.size] (by kernel_rfl) ?ob15 ?done15
          case ob15 =>
            refine zA (zC rfl (zB6 rfl) (zB8 rfl rfl) (fun w2 hb => zF8 Tryz.underlying60 rfl (by kernel_rfl) (B6.below hb)) (fun _ _ => rfl)) ?_
            refine zA (zF rfl Tryz.func121 (by kernel_rfl) (zB6 rfl) (zB7 (j:=0) (by kernel_rfl) rfl rfl) (fun w2 u0 hb h0 => by obtain rfl:=h0; exact (yA0 _ U _ (k6.below hb) (zB4 HUL.out (by decide))).mono fun e w3 h => zE2.pd h hb.size)) ?_
            trivial
          case done15 =>
            refine fun w5 hb5 v0 h0 v1 h1 b hbf => ?_
            obtain rfl:=h0
            obtain ⟨q1,f1⟩:=h1
            simp only [Act.put,zA0,zA2,zA1] at hbf
            subst hbf
            replace B0:=B0.below hb5
            replace k0s:=k0s.below hb5
            replace k0:=k0.below hb5
            replace B1:=B1.below hb5
            replace k1s:=k1s.below hb5
            replace k1:=k1.below hb5
            replace BR0:=BR0.below hb5
            replace B6:=B6.below hb5
            replace k6s:=k6s.below hb5
            replace k6:=k6.below hb5
            replace n18:=n18.below hb5
            replace bb:=bb.trans (hb5.mono bb.size)
            have hsz5:=bb.size
            have s_1:=sB
            obtain ⟨u1,rfl,q1⟩:=q1
            obtain ⟨A6n,c6n,rfl,_⟩:=id q1
            refine zG8 (i:=2) rfl rfl rfl rfl rfl rfl (cells:=[.bool (ngB (-U)),.slice A6n (digs 4294967296 ((-U)).natAbs).length c6n]) rfl B6 rfl (by kernel_rfl) (zH8 rfl rfl) fun w6 hg6 BN6 => ?_
            replace q1:=off q1 B6 no_ints2 hg6
            replace n18:=off n18 B6 no_ints2 hg6
            replace k0s:=off k0s B6 no_ints2 hg6
            replace k0 : IsZ w6 (.agg #[.bool (ngB n),.slice A0 (digs 4294967296 (n).natAbs).length c0]) (n):=⟨_,rfl,k0s⟩
            replace B0:=B0.grown hg6 (by omega)
            replace k1s:=off k1s B6 no_ints2 hg6
            replace k1 : IsZ w6 (.agg #[.bool true,.slice A1 (digs 4294967296 (d).natAbs).length c1]) (d):=zF4 k1s rfl hs1.symm
            replace B1:=B1.grown hg6 (by omega)
            replace BR0:=BR0.grown hg6 (by omega)
            replace bb:=bb.trans ((Below.refl _ _).grown hg6 bb.size (fun g hg => by injection hg with hg; omega))
            have hsz6:=bb.size
            have B6n : Blk w6 (g13_7) _ _:=BN6
            have k6ns:=q1
            have k6n : IsZ w6 (.agg #[.bool (ngB (-U)),.slice A6n (digs 4294967296 ((-U)).natAbs).length c6n]) ((-U)):=⟨_,rfl,k6ns⟩
            refine zD ?_
            have f6n_:=(f1 _ _ rfl).mono s_1
            have sB:=bb.size
            go_upto_region 6 with (fail)
            refine zC9 3 [Pd.eq (.agg #[.bool (ngB (-U)),.slice A6n (digs 4294967296 ((-U)).natAbs).length c6n]),Pd.eq (.slice A18 (digs 4294967296 L).length c18),Pd.eq (.agg #[.bool (ngB (-U)),.slice A6n (digs 4294967296 ((-U)).natAbs).length c6n,.slice A18 (digs 4294967296 L).length c18])] (by kernel_rfl) ?ob16 ?done16
            case ob16 =>
              refine zA (zC rfl (zB6 rfl) (zB8 rfl rfl) (fun w2 hb => zF8 Tryz.underlying60 rfl (by kernel_rfl) (B6n.below hb)) (fun _ _ => rfl)) ?_
              refine zA (zC2 rfl (zB6 rfl) (zB8 rfl rfl) (fun _ _ h => h)) ?_
              refine zA (zL3 rfl (zB6 rfl) (zB7 (j:=0) (by kernel_rfl) rfl rfl) (zB7 (j:=1) (by kernel_rfl) rfl rfl) (fun w2 u v hb hu hv => by obtain rfl:=hu; obtain rfl:=hv; exact ⟨.agg #[.bool (ngB (-U)),.slice A6n (digs 4294967296 ((-U)).natAbs).length c6n,.slice A18 (digs 4294967296 L).length c18],by kernel_rfl,rfl⟩)) ?_
              trivial
            case done16 =>
              refine fun w7 hb7 v0 h0 v1 h1 v2 h2 b hbf => ?_
              obtain rfl:=h0; obtain rfl:=h1; obtain rfl:=h2
              simp only [Act.put,zA0,zA2,zA1] at hbf
              subst hbf
              replace B0:=B0.below hb7
              replace k0s:=k0s.below hb7
              replace k0:=k0.below hb7
              replace B1:=B1.below hb7
              replace k1s:=k1s.below hb7
              replace k1:=k1.below hb7
              replace BR0:=BR0.below hb7
              replace B6n:=B6n.below hb7
              replace k6ns:=k6ns.below hb7
              replace k6n:=k6n.below hb7
              replace n18:=n18.below hb7
              replace bb:=bb.trans (hb7.mono bb.size)
              have hsz7:=bb.size
              refine zG8 (i:=3) rfl rfl rfl rfl rfl rfl (cells:=[.bool (ngB (-U)),.slice A6n (digs 4294967296 ((-U)).natAbs).length c6n,.slice A18 (digs 4294967296 L).length c18]) rfl BR0 rfl (by kernel_rfl) (zI3 rfl rfl rfl) fun w9 hg9 B9 => ?_
              have k9:=off k6ns BR0 zE hg9
              have d9:=off n18 BR0 zE hg9
              have bb9:=bb.trans ((Below.refl _ _).grown hg9 bb.size (fun g hg => by injection hg with hg; omega))
              obtain ⟨C0,C1,C2,_,_,_⟩:=three B9
              refine zP7 (i:=4) (.int .i64 0) rfl rfl rfl rfl rfl fun b hbf => ?_
              simp only [Act.put,zA0,zA2,zA1] at hbf
              subst hbf
              refine zD ?_
              go_wp2
              rw [HQ0.out]
              exact bodyPost_ret (v:=.tuple #[.agg #[.bool (ngB (-U)),.slice A6n (digs 4294967296 ((-U)).natAbs).length c6n,.slice A18 (digs 4294967296 L).length c18],.int .i64 0]) (by simp [results,Tryz.results77,go_sem,C0,C1,C2]) rfl ⟨_,rfl,zU7 k9 d9 (by rw [HQN.out]) (by rw [HQN.out]) HQD.out,zL2 f6n_ (n18f.mono n18z_),bb9⟩
theorem yX4 (a0 : Value) (n : Int) (a1 : Value) (d : Int) (w : World) (h0 : IsZ w a0 n) (h1 : IsZ w a1 d) (hl : zC1 n <= 1000) (hl2 : zC1 d <= 1000) (hd : d ≠ 0) : Calls Tryz.prog 77 #[a0,a1] w (qD1 (Rat.divInt n d) 0 w) :=
 (yD6 a0 n a1 d w h0 h1 hl hl2 hd).mono fun _ _ h => h.e
theorem qQ9 (n : Int) (w : World) (h1 : -9223372036854775808 <= n) (h2 : n <= 9223372036854775807) :
  Calls Tryz.prog 41 #[.int .i64 n] w (RetQ (n : Rat) w):=by
 obtain ⟨Q,hQ⟩ : ∃ Q,Q = (n : Rat):=⟨_,rfl⟩
 have HQ0 : Hid ((n : Rat) = Q):=hQ.symm
 have HQN : Hid (Q.num = n):=by show _ = _; rw [hQ]; exact Rat.num_intCast n
 have HQD : Hid (Q.den = 1):=by show _ = _; rw [hQ]; exact Rat.den_intCast n
 clear hQ
 go_enter Tryz.func41,Tryz.ntmps41
 go_upto_region 1 with (fail)
 obtain ⟨wx,hwx,bb,BR0,hsz⟩:=zN8 w 83 #[.bool false,.slice none 0 0,.slice none 0 0]
 rw [hwx]
 clear hwx
 have hsz0:=bb.size
 have sB:=bb.size
 refine zC9 4 [Pd.eq (.int .i64 n),pz ((Q).num) wx.heap.size,ps .u64 (digs 4294967296 (Q).den) wx.heap.size,pq (Q) wx.heap.size] (by kernel_rfl) ?ob19 ?done19
 case ob19 =>
  refine zA (zC2 rfl (zB6 rfl) (zB8 rfl rfl) (fun _ _ h => h)) ?_
  refine zA (zF rfl Tryz.func82 (by kernel_rfl) (zB6 rfl) (zB7 (j:=0) (by kernel_rfl) rfl rfl) (fun w2 u0 hb h0 => by obtain rfl:=h0; exact (qD4 n _ h1 h2).mono fun e w3 h => zE2.pd (zE2.to h HQN.out.symm) hb.size)) ?_
  refine zA (zF rfl Tryz.func53 (by kernel_rfl) (zB6 rfl) (zH7 _) (fun w2 u0 hb h0 => by obtain rfl:=h0; exact (qB8 1 1 _ rfl (by omega)).mono fun e w3 h => zD1.pd (zD1.to h (congrArg (digs 4294967296) HQD.out.symm)) hb.size)) ?_
  refine zA (zL3 rfl (zB6 rfl) (zB7 (j:=1) (by kernel_rfl) rfl rfl) (zB7 (j:=2) (by kernel_rfl) rfl rfl) (fun w2 u v hb hu hv => by obtain ⟨u7,rfl,hu7⟩:=hu.1; obtain ⟨A7,c7,rfl,_⟩:=id hu7; obtain ⟨A8,c8,rfl,_⟩:=id hv.1; exact ⟨.agg #[.bool (ngB (Q).num),.slice A7 (digs 4294967296 (Q).num.natAbs).length c7,.slice A8 (digs 4294967296 (Q).den).length c8],by kernel_rfl,⟨⟨_,_,rfl,hu7,hv.1⟩,zL2 (hu.2 _ _ rfl) hv.2⟩⟩)) ?_
  trivial
 case done19 =>
  refine fun w1 hb1 v0 h0 v1 h1 v2 h2 v3 h3 b hbf => ?_
  obtain rfl:=h0
  obtain ⟨q1,f1⟩:=h1
  obtain ⟨q2,f2⟩:=h2
  obtain ⟨q3,f3⟩:=h3
  simp only [Act.put,zA0,zA2,zA1] at hbf
  subst hbf
  replace BR0:=BR0.below hb1
  replace bb:=bb.trans (hb1.mono bb.size)
  have hsz1:=bb.size
  have s_1:=sB
  have s_2:=sB
  have s_3:=sB
  obtain ⟨u3,t3,rfl,q3,d3⟩:=q3
  obtain ⟨A9,c9,rfl,_⟩:=id q3
  obtain ⟨D9,e9,rfl,_⟩:=id d3
  refine zG8 (i:=4) rfl rfl rfl rfl rfl rfl (cells:=[.bool (ngB (Q).num),.slice A9 (digs 4294967296 (Q).num.natAbs).length c9,.slice D9 (digs 4294967296 (Q).den).length e9]) rfl BR0 rfl (by kernel_rfl) (zI3 rfl rfl rfl) fun w9 hg9 B9 => ?_
  have k9:=off q3 BR0 zE hg9
  have d9:=off d3 BR0 zE hg9
  have f9:=f3.mono (show w.heap.size <= _ from s_3)
  have bb9:=bb.trans ((Below.refl _ _).grown hg9 bb.size (fun g hg => by injection hg with hg; omega))
  obtain ⟨C0,C1,C2,_,_,_⟩:=three B9
  refine zD ?_
  go_wp2
  rw [HQ0.out]
  exact bodyPost_ret (v:=.agg #[.bool (ngB (Q).num),.slice A9 (digs 4294967296 (Q).num.natAbs).length c9,.slice D9 (digs 4294967296 (Q).den).length e9]) (by simp [results,Tryz.results41,go_sem,C0,C1,C2]) rfl ⟨_,rfl,⟨_,_,rfl,k9,d9⟩,f9,bb9⟩
theorem yX5 (n d : Int) (w : World) (hn : -9223372036854775808 <= n /\ n <= 9223372036854775807) (hd : -9223372036854775808 <= d /\ d <= 9223372036854775807) (h0_ : d ≠ 0) :
  Calls Tryz.prog 42 #[.int .i64 n,.int .i64 d] w (zT1 (Rat.divInt n d) 0 w):=by
 have HLN : Hid (zC1 n <= 1000):=zB4 (qI7 (by omega)) (by decide)
 have HLD : Hid (zC1 d <= 1000):=zB4 (qI7 (by omega)) (by decide)
 obtain ⟨Q,hQ⟩ : ∃ Q,Q = Rat.divInt n d:=⟨_,rfl⟩
 have HQ0 : Hid (Rat.divInt n d = Q):=hQ.symm
 clear hQ
 go_enter Tryz.func42,Tryz.ntmps42
 go_upto_region 1 with (fail)
 obtain ⟨wx,hwx,bb,BR0,hsz⟩:=zN8 w 83 #[.bool false,.slice none 0 0,.slice none 0 0]
 rw [hwx]
 clear hwx
 have hsz0:=bb.size
 have sB:=bb.size
 refine zC9 7 [Pd.eq (.int .i64 n),pz (n) wx.heap.size,Pd.eq (.int .i64 d),pz (d) wx.heap.size,pqf (Q) 0 wx.heap.size,pq (Q) wx.heap.size,Pd.eq (.int .i64 0)] (by kernel_rfl) ?ob20 ?done20
 case ob20 =>
  refine zA (zC2 rfl (zB6 rfl) (zB8 rfl rfl) (fun _ _ h => h)) ?_
  refine zA (zF rfl Tryz.func82 (by kernel_rfl) (zB6 rfl) (zB7 (j:=0) (by kernel_rfl) rfl rfl) (fun w2 u0 hb h0 => by obtain rfl:=h0; exact (qD4 n _ hn.1 hn.2).mono fun e w3 h => zE2.pd h hb.size)) ?_
  refine zA (zC2 rfl (zB6 rfl) (zB8 rfl rfl) (fun _ _ h => h)) ?_
  refine zA (zF rfl Tryz.func82 (by kernel_rfl) (zB6 rfl) (zB7 (j:=2) (by kernel_rfl) rfl rfl) (fun w2 u0 hb h0 => by obtain rfl:=h0; exact (qD4 d _ hd.1 hd.2).mono fun e w3 h => zE2.pd h hb.size)) ?_
  refine zA (zD4 rfl Tryz.func77 (by kernel_rfl) (zB6 rfl) (zB7 (j:=1) (by kernel_rfl) rfl rfl) (zB7 (j:=3) (by kernel_rfl) rfl rfl) (fun w2 u0 u1 hb h0 h1 => by exact (HQ0.out ▸ yD6 _ n _ d _ h0.1 h1.1 HLN.out HLD.out h0_).mono fun e w3 h => zT1.pd h hb.size)) ?_
  refine zA (zG7 rfl (zB6 rfl) (zB7 (j:=4) (by kernel_rfl) rfl rfl) (fun w2 u hu => by obtain ⟨v,rfl,q1,q2⟩:=hu; exact ⟨v,rfl,q1,q2⟩)) ?_
  refine zA (zG7 rfl (zB6 rfl) (zB7 (j:=4) (by kernel_rfl) rfl rfl) (fun w2 u hu => by obtain ⟨v,rfl,q1,q2⟩:=hu; exact ⟨_,rfl,rfl⟩)) ?_
  trivial
 case done20 =>
  refine fun w1 hb1 v0 h0 v1 h1 v2 h2 v3 h3 v4 h4 v5 h5 v6 h6 b hbf => ?_
  obtain rfl:=h0; obtain rfl:=h2; obtain rfl:=h6
  obtain ⟨q1,f1⟩:=h1
  obtain ⟨q3,f3⟩:=h3
  clear h4
  obtain ⟨q5,f5⟩:=h5
  simp only [Act.put,zA0,zA2,zA1] at hbf
  subst hbf
  replace BR0:=BR0.below hb1
  replace bb:=bb.trans (hb1.mono bb.size)
  have hsz1:=bb.size
  have s_1:=sB
  have s_3:=sB
  have s_5:=sB
  obtain ⟨u5,t5,rfl,q5,d5⟩:=q5
  obtain ⟨A9,c9,rfl,_⟩:=id q5
  obtain ⟨D9,e9,rfl,_⟩:=id d5
  have fS:=(f5 _ _ _ rfl).1.mono s_5
  have fT:=(f5 _ _ _ rfl).2.mono s_5
  refine zG8 (i:=7) rfl rfl rfl rfl rfl rfl (cells:=[.bool (ngB (Q).num),.slice A9 (digs 4294967296 (Q).num.natAbs).length c9,.slice D9 (digs 4294967296 (Q).den).length e9]) rfl BR0 rfl (by kernel_rfl) (zI3 rfl rfl rfl) fun w9 hg9 B9 => ?_
  have k9:=off q5 BR0 zE hg9
  have d9:=off d5 BR0 zE hg9
  have bb9:=bb.trans ((Below.refl _ _).grown hg9 bb.size (fun g hg => by injection hg with hg; omega))
  obtain ⟨C0,C1,C2,_,_,_⟩:=three B9
  refine zP7 (i:=8) (.int .i64 0) rfl rfl rfl rfl rfl fun b hbf => ?_
  simp only [Act.put,zA0,zA2,zA1] at hbf
  subst hbf
  refine zD ?_
  go_wp2
  rw [HQ0.out]
  exact bodyPost_ret (v:=.tuple #[.agg #[.bool (ngB (Q).num),.slice A9 (digs 4294967296 (Q).num.natAbs).length c9,.slice D9 (digs 4294967296 (Q).den).length e9],.int .i64 0]) (by simp [results,Tryz.results42,go_sem,C0,C1,C2]) rfl ⟨_,rfl,zU7 k9 d9 rfl rfl rfl,zL2 fS fT,bb9⟩
theorem yX6 (n d : Int) (w : World) (hn : -9223372036854775808 <= n /\ n <= 9223372036854775807) (hd : -9223372036854775808 <= d /\ d <= 9223372036854775807) (h0 : d ≠ 0) : Calls Tryz.prog 42 #[.int .i64 n,.int .i64 d] w (qD1 (Rat.divInt n d) 0 w) :=
 (yX5 n d w hn hd h0).mono fun _ _ h => h.e
theorem yX7 (v u : Value) (l m : List Nat) (b : Bool) (w : World) (h : IsS w .u64 v l) (h' : IsS w .u64 u m) (hu : Lt 18446744073709551616 l) (hu' : Lt 18446744073709551616 m) (hb_ : b = zM l m) :
  Calls Tryz.prog 122 #[v,u] w (zD8 (.bool b) w):=by
 have HB:=Lib.hid hb_
 clear hb_
 obtain ⟨A,c,rfl,hc,hm,hr⟩:=h
 obtain ⟨A',c',rfl,hc',hmm,hr'⟩:=h'
 unfold maxLen at hm hmm
 by_cases hne : l.length = m.length
 ·have hb1 : ((l.length : Int) != (m.length : Int)) = false:=by rw [hne]; simp
  have HL:=Lib.hid hne
  have hl1 : l.length <= m.length:=by omega
  have hl2 : m.length <= l.length:=by omega
  clear hne
  go_enter Tryz.func122,Tryz.ntmps122
  go_wp2
  go_loopw [13] (fun vi wr => ∃ k : Nat,k <= l.length /\ Hid (l.take k = m.take k) /\ Below w.heap.size w wr /\ vi = .int .i64 (k : Int)) (fun vi _ => l.length - (intOf vi).toNat)
  case atStart => exact ⟨0,by omega,by show _ = _; simp,Below.refl _ _,rfl⟩
  case round =>
   obtain ⟨k,hk,HT,hb,rfl⟩:=hrel
   by_cases hlt : k < l.length
   ·obtain ⟨ad,d,rfl,hd,hcell⟩:=(hr.below hb).at_ hlt
    obtain ⟨ad',e,rfl,he,hcell'⟩:=(hr'.below hb).at_ (i:=k) (by omega)
    by_cases hde : d = e
    ·subst hde
     have HN : Hid (l.take (k + 1) = m.take (k + 1)):=by show _ = _; rw [zS3 hd,zS3 he,HT.out]
     have hz : ((d : Int) != (d : Int)) = false:=by simp
     clear hd he
     go_wp2
     go_quiet (fail)
     go_wp2
     go_roundw
     case rel => exact ⟨k + 1,by omega,HN,zL9 hb _,by go_num⟩
     case measure => simp [intOf]; omega
    ·have HN : Hid (zM l m = false):=qU7 hd he hde
     have hz : ((d : Int) != (e : Int)) = true:=by rw [bne_iff_ne]; omega
     clear hd he hde
     go_wp2
     go_quiet (fail)
     go_wp2
     go_ret
     exact ⟨by rw [HB.out,HN.out]; rfl,zL9 hb _⟩
   ·obtain rfl : k = l.length:=by omega
    have HN : Hid (zM l m = true):=by
     have:=HT.out
     rw [List.take_length,zA7 hl2] at this
     rw [this]; exact qU5 m
    go_wp2
    go_ret
    exact ⟨by rw [HB.out,HN.out]; rfl,hb⟩
 ·have hb1 : ((l.length : Int) != (m.length : Int)) = true:=by rw [bne_iff_ne]; omega
  have HN : Hid (zM l m = false):=qU6 hne
  clear hne
  go_enter Tryz.func122,Tryz.ntmps122
  go_wp2
  go_ret
  exact ⟨by rw [HB.out,HN.out]; rfl,Below.refl _ _⟩
theorem qR (v u : Value) (x y : Nat) (b : Bool) (w : World) (h : IsS w .u64 v (digs 4294967296 x)) (h' : IsS w .u64 u (digs 4294967296 y)) (hb : b = decide (x = y)) :
  Calls Tryz.prog 122 #[v,u] w (zD8 (.bool b) w) :=
 yX7 v u _ _ b w h h' (qG8 x) (qG8 y) (by rw [hb,qW7])
theorem yD7 (a0 a1 : Value) (x y : Rat) (b : Bool) (w : World) (h0 : IsQ w a0 x) (h1 : IsQ w a1 y) (hb : b = decide (x = y)) :
  Calls Tryz.prog 79 #[a0,a1] w (zD8 (.bool b) w):=by
 by_cases hs : ngB x.num = ngB y.num
 ·by_cases hn : x.num.natAbs = y.num.natAbs
  ·obtain ⟨u0,t0,rfl,s0,r0⟩:=h0
   obtain ⟨A0,c0,rfl,_⟩:=id s0
   obtain ⟨D0,e0,rfl,_⟩:=id r0
   obtain ⟨u1,t1,rfl,s1,r1⟩:=h1
   obtain ⟨A1,c1,rfl,_⟩:=id s1
   obtain ⟨D1,e1,rfl,_⟩:=id r1
   have HE : Hid ((ngB x.num == ngB y.num) = true):=by show _ = _; rw [hs]; exact beq_self_eq_true _
   have HB : Hid (b = decide (x.den = y.den)):=by show _ = _; rw [hb,decide_eq_decide,yU4]; exact ⟨fun e => e.2,fun e => ⟨by rw [<- zU5 x.num,<- zU5 y.num,hs,hn],e⟩⟩
   clear hb hs
   have HN : Hid (true = decide (x.num.natAbs = y.num.natAbs)):=(decide_eq_true hn).symm
   clear hn
   go_enter Tryz.func79,Tryz.ntmps79
   go_upto_region 1 with (fail)
   obtain ⟨wx,hwx,bb,B0,B1,hsz⟩:=zI8 w 83 83 #[.bool (ngB (x).num),.slice A0 (digs 4294967296 (x).num.natAbs).length c0,.slice D0 (digs 4294967296 (x).den).length e0] #[.bool (ngB (y).num),.slice A1 (digs 4294967296 (y).num.natAbs).length c1,.slice D1 (digs 4294967296 (y).den).length e1]
   rw [hwx]
   clear hwx
   have k0s:=s0.below bb
   have k0d:=r0.below bb
   have k0z : IsZ wx (.agg #[.bool (ngB (x).num),.slice A0 (digs 4294967296 (x).num.natAbs).length c0]) (x).num:=⟨_,rfl,k0s⟩
   have k0 : IsQ wx (.agg #[.bool (ngB (x).num),.slice A0 (digs 4294967296 (x).num.natAbs).length c0,.slice D0 (digs 4294967296 (x).den).length e0]) (x):=⟨_,_,rfl,k0s,k0d⟩
   have k1s:=s1.below bb
   have k1d:=r1.below bb
   have k1z : IsZ wx (.agg #[.bool (ngB (y).num),.slice A1 (digs 4294967296 (y).num.natAbs).length c1]) (y).num:=⟨_,rfl,k1s⟩
   have k1 : IsQ wx (.agg #[.bool (ngB (y).num),.slice A1 (digs 4294967296 (y).num.natAbs).length c1,.slice D1 (digs 4294967296 (y).den).length e1]) (y):=⟨_,_,rfl,k1s,k1d⟩
   have hsz0:=bb.size
   have sB:=bb.size
   refine zC9 24 [Pd.eq (.pointer (some ⟨w.heap.size,0,none⟩)),Pd.eq (.pointer (some ⟨w.heap.size,0,none⟩)),Pd.eq (.bool (ngB (x).num)),Pd.eq (.pointer (some ⟨w.heap.size + 1,0,none⟩)),Pd.eq (.pointer (some ⟨w.heap.size + 1,0,none⟩)),Pd.eq (.bool (ngB (y).num)),Pd.eq (.bool true),Pd.eq (.bool true),Pd.eq (.pointer (some ⟨w.heap.size,0,none⟩)),Pd.eq (.pointer (some ⟨w.heap.size,1,none⟩)),Pd.eq (.slice A0 (digs 4294967296 (x).num.natAbs).length c0),Pd.eq (.pointer (some ⟨w.heap.size + 1,0,none⟩)),Pd.eq (.pointer (some ⟨w.heap.size + 1,1,none⟩)),Pd.eq (.slice A1 (digs 4294967296 (y).num.natAbs).length c1),Pd.eq (.bool true),Pd.eq (.bool true),Pd.eq (.bool true),Pd.eq (.pointer (some ⟨w.heap.size,2,none⟩)),Pd.eq (.slice D0 (digs 4294967296 (x).den).length e0),Pd.eq (.pointer (some ⟨w.heap.size + 1,2,none⟩)),Pd.eq (.slice D1 (digs 4294967296 (y).den).length e1),Pd.eq (.bool b),Pd.eq (.bool b),Pd.eq (.bool b)] (by kernel_rfl) ?ob46 ?done46
   case ob46 =>
    refine zA (zC3 rfl (zB6 rfl) (zB8 rfl rfl) (fun _ => by kernel_rfl) (fun _ => rfl)) ?_
    refine zA (zC3 rfl (zB6 rfl) (zB7 (j:=0) (by kernel_rfl) rfl rfl) (fun _ => by kernel_rfl) (fun _ => rfl)) ?_
    refine zA (zC rfl (zB6 rfl) (zB7 (j:=1) (by kernel_rfl) rfl rfl) (fun w2 hb => zC5 Tryz.underlying4 rfl ((B0.below hb).cell 0)) (fun _ _ => rfl)) ?_
    refine zA (zC3 rfl (zB6 rfl) (zB8 rfl rfl) (fun _ => by kernel_rfl) (fun _ => rfl)) ?_
    refine zA (zC3 rfl (zB6 rfl) (zB7 (j:=3) (by kernel_rfl) rfl rfl) (fun _ => by kernel_rfl) (fun _ => rfl)) ?_
    refine zA (zC rfl (zB6 rfl) (zB7 (j:=4) (by kernel_rfl) rfl rfl) (fun w2 hb => zC5 Tryz.underlying4 rfl ((B1.below hb).cell 0)) (fun _ _ => rfl)) ?_
    refine zA (zG4 rfl (zB6 rfl) (zB7 (j:=2) (by kernel_rfl) rfl rfl) (zB7 (j:=5) (by kernel_rfl) rfl rfl) (fun _ _ _ hx hy => ⟨.bool true,by rw [hx,hy]; exact (zU3 _ _ _ _ Tryz.underlying4 _).trans (by rw [HE.out]),rfl⟩)) ?_
    refine zA (zC2 rfl (zB6 rfl) (zB7 (j:=6) (by kernel_rfl) rfl rfl) (fun _ _ h => h)) ?_
    refine zA (zC3 rfl (zD9 (c:=true) (b:=true) (g:=7) rfl (by kernel_rfl) rfl rfl rfl (by exact fun _ _ h => h)) (zB8 rfl rfl) (fun _ => by kernel_rfl) (fun _ => rfl)) ?_
    refine zA (zC3 rfl (zD9 (c:=true) (b:=true) (g:=7) rfl (by kernel_rfl) rfl rfl rfl (by exact fun _ _ h => h)) (zB7 (j:=8) (by kernel_rfl) rfl rfl) (fun _ => by kernel_rfl) (fun _ => rfl)) ?_
    refine zA (zC rfl (zD9 (c:=true) (b:=true) (g:=7) rfl (by kernel_rfl) rfl rfl rfl (by exact fun _ _ h => h)) (zB7 (j:=9) (by kernel_rfl) rfl rfl) (fun w2 hb => zC5 Tryz.underlying50 rfl ((B0.below hb).cell 1)) (fun _ _ => rfl)) ?_
    refine zA (zC3 rfl (zD9 (c:=true) (b:=true) (g:=7) rfl (by kernel_rfl) rfl rfl rfl (by exact fun _ _ h => h)) (zB8 rfl rfl) (fun _ => by kernel_rfl) (fun _ => rfl)) ?_
    refine zA (zC3 rfl (zD9 (c:=true) (b:=true) (g:=7) rfl (by kernel_rfl) rfl rfl rfl (by exact fun _ _ h => h)) (zB7 (j:=11) (by kernel_rfl) rfl rfl) (fun _ => by kernel_rfl) (fun _ => rfl)) ?_
    refine zA (zC rfl (zD9 (c:=true) (b:=true) (g:=7) rfl (by kernel_rfl) rfl rfl rfl (by exact fun _ _ h => h)) (zB7 (j:=12) (by kernel_rfl) rfl rfl) (fun w2 hb => zC5 Tryz.underlying50 rfl ((B1.below hb).cell 1)) (fun _ _ => rfl)) ?_
    refine zA (zD4 rfl Tryz.func122 (by kernel_rfl) (zD9 (c:=true) (b:=true) (g:=7) rfl (by kernel_rfl) rfl rfl rfl (by exact fun _ _ h => h)) (zB7 (j:=10) (by kernel_rfl) rfl rfl) (zB7 (j:=13) (by kernel_rfl) rfl rfl) (fun w2 u0 u1 hb h0 h1 => by obtain rfl:=h0; obtain rfl:=h1; exact (qR _ _ (x).num.natAbs (y).num.natAbs true _ (k0s.below hb) (k1s.below hb) HN.out).mono fun e w3 h => zD8.pd h)) ?_
    refine zA (zO9 (b:=true) rfl (zB6 rfl) (zB7 (j:=7) (by kernel_rfl) rfl rfl) (zB7 (j:=14) (by kernel_rfl) rfl rfl) (fun _ _ h => h)) ?_
    refine zA (zC2 rfl (zB6 rfl) (zB7 (j:=15) (by kernel_rfl) rfl rfl) (fun _ _ h => h)) ?_
    refine zA (zC3 rfl (zD9 (c:=true) (b:=true) (g:=16) rfl (by kernel_rfl) rfl rfl rfl (by exact fun _ _ h => h)) (zB8 rfl rfl) (fun _ => by kernel_rfl) (fun _ => rfl)) ?_
    refine zA (zC rfl (zD9 (c:=true) (b:=true) (g:=16) rfl (by kernel_rfl) rfl rfl rfl (by exact fun _ _ h => h)) (zB7 (j:=17) (by kernel_rfl) rfl rfl) (fun w2 hb => zC5 Tryz.underlying50 rfl ((B0.below hb).cell 2)) (fun _ _ => rfl)) ?_
    refine zA (zC3 rfl (zD9 (c:=true) (b:=true) (g:=16) rfl (by kernel_rfl) rfl rfl rfl (by exact fun _ _ h => h)) (zB8 rfl rfl) (fun _ => by kernel_rfl) (fun _ => rfl)) ?_
    refine zA (zC rfl (zD9 (c:=true) (b:=true) (g:=16) rfl (by kernel_rfl) rfl rfl rfl (by exact fun _ _ h => h)) (zB7 (j:=19) (by kernel_rfl) rfl rfl) (fun w2 hb => zC5 Tryz.underlying50 rfl ((B1.below hb).cell 2)) (fun _ _ => rfl)) ?_
    refine zA (zD4 rfl Tryz.func122 (by kernel_rfl) (zD9 (c:=true) (b:=true) (g:=16) rfl (by kernel_rfl) rfl rfl rfl (by exact fun _ _ h => h)) (zB7 (j:=18) (by kernel_rfl) rfl rfl) (zB7 (j:=20) (by kernel_rfl) rfl rfl) (fun w2 u0 u1 hb h0 h1 => by obtain rfl:=h0; obtain rfl:=h1; exact (qR _ _ (x).den (y).den b _ (k0d.below hb) (k1d.below hb) HB.out).mono fun e w3 h => zD8.pd h)) ?_
    refine zA (zO9 (b:=true) rfl (zB6 rfl) (zB7 (j:=16) (by kernel_rfl) rfl rfl) (zB7 (j:=21) (by kernel_rfl) rfl rfl) (fun _ _ h => h)) ?_
    refine zA (zE8 rfl (zB6 rfl) (zB7 (j:=22) (by kernel_rfl) rfl rfl) (fun _ _ h => h)) ?_
    trivial
   case done46 =>
    refine fun w1 hb1 v0 h0 v1 h1 v2 h2 v3 h3 v4 h4 v5 h5 v6 h6 v7 h7 v8 h8 v9 h9 v10 h10 v11 h11 v12 h12 v13 h13 v14 h14 v15 h15 v16 h16 v17 h17 v18 h18 v19 h19 v20 h20 v21 h21 v22 h22 v23 h23 b hbf => ?_
    obtain rfl:=h0; obtain rfl:=h1; obtain rfl:=h2; obtain rfl:=h3; obtain rfl:=h4; obtain rfl:=h5; obtain rfl:=h6; obtain rfl:=h7; obtain rfl:=h8; obtain rfl:=h9; obtain rfl:=h10; obtain rfl:=h11; obtain rfl:=h12; obtain rfl:=h13; obtain rfl:=h14; obtain rfl:=h15; obtain rfl:=h16; obtain rfl:=h17; obtain rfl:=h18; obtain rfl:=h19; obtain rfl:=h20; obtain rfl:=h21; obtain rfl:=h22; obtain rfl:=h23
    simp only [Act.put,zA0,zA2,zA1] at hbf
    subst hbf
    replace B0:=B0.below hb1
    replace k0s:=k0s.below hb1
    replace k0d:=k0d.below hb1
    replace k0z:=k0z.below hb1
    replace k0:=k0.below hb1
    replace B1:=B1.below hb1
    replace k1s:=k1s.below hb1
    replace k1d:=k1d.below hb1
    replace k1z:=k1z.below hb1
    replace k1:=k1.below hb1
    replace bb:=bb.trans (hb1.mono bb.size)
    have hsz1:=bb.size
    refine zD ?_
    go_wp2
    go_ret
    exact ⟨rfl,bb⟩
  ·obtain ⟨u0,t0,rfl,s0,r0⟩:=h0
   obtain ⟨A0,c0,rfl,_⟩:=id s0
   obtain ⟨D0,e0,rfl,_⟩:=id r0
   obtain ⟨u1,t1,rfl,s1,r1⟩:=h1
   obtain ⟨A1,c1,rfl,_⟩:=id s1
   obtain ⟨D1,e1,rfl,_⟩:=id r1
   have HE : Hid ((ngB x.num == ngB y.num) = true):=by show _ = _; rw [hs]; exact beq_self_eq_true _
   obtain rfl : b = false:=by rw [hb,decide_eq_false_iff_not]; exact fun e => hn (by rw [e])
   clear hb hs
   have HN : Hid (false = decide (x.num.natAbs = y.num.natAbs)):=(decide_eq_false hn).symm
   clear hn
   go_enter Tryz.func79,Tryz.ntmps79
   go_upto_region 1 with (fail)
   obtain ⟨wx,hwx,bb,B0,B1,hsz⟩:=zI8 w 83 83 #[.bool (ngB (x).num),.slice A0 (digs 4294967296 (x).num.natAbs).length c0,.slice D0 (digs 4294967296 (x).den).length e0] #[.bool (ngB (y).num),.slice A1 (digs 4294967296 (y).num.natAbs).length c1,.slice D1 (digs 4294967296 (y).den).length e1]
   rw [hwx]
   clear hwx
   have k0s:=s0.below bb
   have k0d:=r0.below bb
   have k0z : IsZ wx (.agg #[.bool (ngB (x).num),.slice A0 (digs 4294967296 (x).num.natAbs).length c0]) (x).num:=⟨_,rfl,k0s⟩
   have k0 : IsQ wx (.agg #[.bool (ngB (x).num),.slice A0 (digs 4294967296 (x).num.natAbs).length c0,.slice D0 (digs 4294967296 (x).den).length e0]) (x):=⟨_,_,rfl,k0s,k0d⟩
   have k1s:=s1.below bb
   have k1d:=r1.below bb
   have k1z : IsZ wx (.agg #[.bool (ngB (y).num),.slice A1 (digs 4294967296 (y).num.natAbs).length c1]) (y).num:=⟨_,rfl,k1s⟩
   have k1 : IsQ wx (.agg #[.bool (ngB (y).num),.slice A1 (digs 4294967296 (y).num.natAbs).length c1,.slice D1 (digs 4294967296 (y).den).length e1]) (y):=⟨_,_,rfl,k1s,k1d⟩
   have hsz0:=bb.size
   have sB:=bb.size
   refine zC9 24 [Pd.eq (.pointer (some ⟨w.heap.size,0,none⟩)),Pd.eq (.pointer (some ⟨w.heap.size,0,none⟩)),Pd.eq (.bool (ngB (x).num)),Pd.eq (.pointer (some ⟨w.heap.size + 1,0,none⟩)),Pd.eq (.pointer (some ⟨w.heap.size + 1,0,none⟩)),Pd.eq (.bool (ngB (y).num)),Pd.eq (.bool true),Pd.eq (.bool true),Pd.eq (.pointer (some ⟨w.heap.size,0,none⟩)),Pd.eq (.pointer (some ⟨w.heap.size,1,none⟩)),Pd.eq (.slice A0 (digs 4294967296 (x).num.natAbs).length c0),Pd.eq (.pointer (some ⟨w.heap.size + 1,0,none⟩)),Pd.eq (.pointer (some ⟨w.heap.size + 1,1,none⟩)),Pd.eq (.slice A1 (digs 4294967296 (y).num.natAbs).length c1),Pd.eq (.bool false),Pd.eq (.bool false),Pd.eq (.bool false),Pd.any,Pd.any,Pd.any,Pd.any,Pd.any,Pd.eq (.bool false),Pd.eq (.bool false)] (by kernel_rfl) ?ob45 ?done45
   case ob45 =>
    refine zA (zC3 rfl (zB6 rfl) (zB8 rfl rfl) (fun _ => by kernel_rfl) (fun _ => rfl)) ?_
    refine zA (zC3 rfl (zB6 rfl) (zB7 (j:=0) (by kernel_rfl) rfl rfl) (fun _ => by kernel_rfl) (fun _ => rfl)) ?_
    refine zA (zC rfl (zB6 rfl) (zB7 (j:=1) (by kernel_rfl) rfl rfl) (fun w2 hb => zC5 Tryz.underlying4 rfl ((B0.below hb).cell 0)) (fun _ _ => rfl)) ?_
    refine zA (zC3 rfl (zB6 rfl) (zB8 rfl rfl) (fun _ => by kernel_rfl) (fun _ => rfl)) ?_
    refine zA (zC3 rfl (zB6 rfl) (zB7 (j:=3) (by kernel_rfl) rfl rfl) (fun _ => by kernel_rfl) (fun _ => rfl)) ?_
    refine zA (zC rfl (zB6 rfl) (zB7 (j:=4) (by kernel_rfl) rfl rfl) (fun w2 hb => zC5 Tryz.underlying4 rfl ((B1.below hb).cell 0)) (fun _ _ => rfl)) ?_
    refine zA (zG4 rfl (zB6 rfl) (zB7 (j:=2) (by kernel_rfl) rfl rfl) (zB7 (j:=5) (by kernel_rfl) rfl rfl) (fun _ _ _ hx hy => ⟨.bool true,by rw [hx,hy]; exact (zU3 _ _ _ _ Tryz.underlying4 _).trans (by rw [HE.out]),rfl⟩)) ?_
    refine zA (zC2 rfl (zB6 rfl) (zB7 (j:=6) (by kernel_rfl) rfl rfl) (fun _ _ h => h)) ?_
    refine zA (zC3 rfl (zD9 (c:=true) (b:=true) (g:=7) rfl (by kernel_rfl) rfl rfl rfl (by exact fun _ _ h => h)) (zB8 rfl rfl) (fun _ => by kernel_rfl) (fun _ => rfl)) ?_
    refine zA (zC3 rfl (zD9 (c:=true) (b:=true) (g:=7) rfl (by kernel_rfl) rfl rfl rfl (by exact fun _ _ h => h)) (zB7 (j:=8) (by kernel_rfl) rfl rfl) (fun _ => by kernel_rfl) (fun _ => rfl)) ?_
    refine zA (zC rfl (zD9 (c:=true) (b:=true) (g:=7) rfl (by kernel_rfl) rfl rfl rfl (by exact fun _ _ h => h)) (zB7 (j:=9) (by kernel_rfl) rfl rfl) (fun w2 hb => zC5 Tryz.underlying50 rfl ((B0.below hb).cell 1)) (fun _ _ => rfl)) ?_
    refine zA (zC3 rfl (zD9 (c:=true) (b:=true) (g:=7) rfl (by kernel_rfl) rfl rfl rfl (by exact fun _ _ h => h)) (zB8 rfl rfl) (fun _ => by kernel_rfl) (fun _ => rfl)) ?_
    refine zA (zC3 rfl (zD9 (c:=true) (b:=true) (g:=7) rfl (by kernel_rfl) rfl rfl rfl (by exact fun _ _ h => h)) (zB7 (j:=11) (by kernel_rfl) rfl rfl) (fun _ => by kernel_rfl) (fun _ => rfl)) ?_
    refine zA (zC rfl (zD9 (c:=true) (b:=true) (g:=7) rfl (by kernel_rfl) rfl rfl rfl (by exact fun _ _ h => h)) (zB7 (j:=12) (by kernel_rfl) rfl rfl) (fun w2 hb => zC5 Tryz.underlying50 rfl ((B1.below hb).cell 1)) (fun _ _ => rfl)) ?_
    refine zA (zD4 rfl Tryz.func122 (by kernel_rfl) (zD9 (c:=true) (b:=true) (g:=7) rfl (by kernel_rfl) rfl rfl rfl (by exact fun _ _ h => h)) (zB7 (j:=10) (by kernel_rfl) rfl rfl) (zB7 (j:=13) (by kernel_rfl) rfl rfl) (fun w2 u0 u1 hb h0 h1 => by obtain rfl:=h0; obtain rfl:=h1; exact (qR _ _ (x).num.natAbs (y).num.natAbs false _ (k0s.below hb) (k1s.below hb) HN.out).mono fun e w3 h => zD8.pd h)) ?_
    refine zA (zO9 (b:=true) rfl (zB6 rfl) (zB7 (j:=7) (by kernel_rfl) rfl rfl) (zB7 (j:=14) (by kernel_rfl) rfl rfl) (fun _ _ h => h)) ?_
    refine zA (zC2 rfl (zB6 rfl) (zB7 (j:=15) (by kernel_rfl) rfl rfl) (fun _ _ h => h)) ?_
    refine zA (zJ3 (zD9 (c:=false) (b:=true) (g:=16) rfl (by kernel_rfl) rfl rfl rfl (by exact fun _ _ h => h)) (fun _ => trivial) rfl) ?_
    refine zA (zJ3 (zD9 (c:=false) (b:=true) (g:=16) rfl (by kernel_rfl) rfl rfl rfl (by exact fun _ _ h => h)) (fun _ => trivial) rfl) ?_
    refine zA (zJ3 (zD9 (c:=false) (b:=true) (g:=16) rfl (by kernel_rfl) rfl rfl rfl (by exact fun _ _ h => h)) (fun _ => trivial) rfl) ?_
    refine zA (zJ3 (zD9 (c:=false) (b:=true) (g:=16) rfl (by kernel_rfl) rfl rfl rfl (by exact fun _ _ h => h)) (fun _ => trivial) rfl) ?_
    refine zA (zJ3 (zD9 (c:=false) (b:=true) (g:=16) rfl (by kernel_rfl) rfl rfl rfl (by exact fun _ _ h => h)) (fun _ => trivial) rfl) ?_
    refine zA (zO9 (b:=false) rfl (zB6 rfl) (zB7 (j:=16) (by kernel_rfl) rfl rfl) (zH7 _) (fun _ _ h => h)) ?_
    refine zA (zE8 rfl (zB6 rfl) (zB7 (j:=22) (by kernel_rfl) rfl rfl) (fun _ _ h => h)) ?_
    trivial
   case done45 =>
    refine fun w1 hb1 v0 h0 v1 h1 v2 h2 v3 h3 v4 h4 v5 h5 v6 h6 v7 h7 v8 h8 v9 h9 v10 h10 v11 h11 v12 h12 v13 h13 v14 h14 v15 h15 v16 h16 v17 h17 v18 h18 v19 h19 v20 h20 v21 h21 v22 h22 v23 h23 b hbf => ?_
    obtain rfl:=h0; obtain rfl:=h1; obtain rfl:=h2; obtain rfl:=h3; obtain rfl:=h4; obtain rfl:=h5; obtain rfl:=h6; obtain rfl:=h7; obtain rfl:=h8; obtain rfl:=h9; obtain rfl:=h10; obtain rfl:=h11; obtain rfl:=h12; obtain rfl:=h13; obtain rfl:=h14; obtain rfl:=h15; obtain rfl:=h16; obtain rfl:=h22; obtain rfl:=h23
    clear h17
    clear h18
    clear h19
    clear h20
    clear h21
    simp only [Act.put,zA0,zA2,zA1] at hbf
    subst hbf
    replace B0:=B0.below hb1
    replace k0s:=k0s.below hb1
    replace k0d:=k0d.below hb1
    replace k0z:=k0z.below hb1
    replace k0:=k0.below hb1
    replace B1:=B1.below hb1
    replace k1s:=k1s.below hb1
    replace k1d:=k1d.below hb1
    replace k1z:=k1z.below hb1
    replace k1:=k1.below hb1
    replace bb:=bb.trans (hb1.mono bb.size)
    have hsz1:=bb.size
    refine zD ?_
    go_wp2
    go_ret
    exact ⟨rfl,bb⟩
 ·obtain ⟨u0,t0,rfl,s0,r0⟩:=h0
  obtain ⟨A0,c0,rfl,_⟩:=id s0
  obtain ⟨D0,e0,rfl,_⟩:=id r0
  obtain ⟨u1,t1,rfl,s1,r1⟩:=h1
  obtain ⟨A1,c1,rfl,_⟩:=id s1
  obtain ⟨D1,e1,rfl,_⟩:=id r1
  obtain rfl : b = false:=by rw [hb,decide_eq_false_iff_not]; exact fun e => hs (by rw [e])
  clear hb
  have HE : Hid ((ngB x.num == ngB y.num) = false):=by show _ = _; rw [beq_eq_false_iff_ne]; exact hs
  clear hs
  go_enter Tryz.func79,Tryz.ntmps79
  go_upto_region 1 with (fail)
  obtain ⟨wx,hwx,bb,B0,B1,hsz⟩:=zI8 w 83 83 #[.bool (ngB (x).num),.slice A0 (digs 4294967296 (x).num.natAbs).length c0,.slice D0 (digs 4294967296 (x).den).length e0] #[.bool (ngB (y).num),.slice A1 (digs 4294967296 (y).num.natAbs).length c1,.slice D1 (digs 4294967296 (y).den).length e1]
  rw [hwx]
  clear hwx
  have k0s:=s0.below bb
  have k0d:=r0.below bb
  have k0z : IsZ wx (.agg #[.bool (ngB (x).num),.slice A0 (digs 4294967296 (x).num.natAbs).length c0]) (x).num:=⟨_,rfl,k0s⟩
  have k0 : IsQ wx (.agg #[.bool (ngB (x).num),.slice A0 (digs 4294967296 (x).num.natAbs).length c0,.slice D0 (digs 4294967296 (x).den).length e0]) (x):=⟨_,_,rfl,k0s,k0d⟩
  have k1s:=s1.below bb
  have k1d:=r1.below bb
  have k1z : IsZ wx (.agg #[.bool (ngB (y).num),.slice A1 (digs 4294967296 (y).num.natAbs).length c1]) (y).num:=⟨_,rfl,k1s⟩
  have k1 : IsQ wx (.agg #[.bool (ngB (y).num),.slice A1 (digs 4294967296 (y).num.natAbs).length c1,.slice D1 (digs 4294967296 (y).den).length e1]) (y):=⟨_,_,rfl,k1s,k1d⟩
  have hsz0:=bb.size
  have sB:=bb.size
  refine zC9 24 [Pd.eq (.pointer (some ⟨w.heap.size,0,none⟩)),Pd.eq (.pointer (some ⟨w.heap.size,0,none⟩)),Pd.eq (.bool (ngB (x).num)),Pd.eq (.pointer (some ⟨w.heap.size + 1,0,none⟩)),Pd.eq (.pointer (some ⟨w.heap.size + 1,0,none⟩)),Pd.eq (.bool (ngB (y).num)),Pd.eq (.bool false),Pd.eq (.bool false),Pd.any,Pd.any,Pd.any,Pd.any,Pd.any,Pd.any,Pd.any,Pd.eq (.bool false),Pd.eq (.bool false),Pd.any,Pd.any,Pd.any,Pd.any,Pd.any,Pd.eq (.bool false),Pd.eq (.bool false)] (by kernel_rfl) ?ob44 ?done44
  case ob44 =>
   refine zA (zC3 rfl (zB6 rfl) (zB8 rfl rfl) (fun _ => by kernel_rfl) (fun _ => rfl)) ?_
   refine zA (zC3 rfl (zB6 rfl) (zB7 (j:=0) (by kernel_rfl) rfl rfl) (fun _ => by kernel_rfl) (fun _ => rfl)) ?_
   refine zA (zC rfl (zB6 rfl) (zB7 (j:=1) (by kernel_rfl) rfl rfl) (fun w2 hb => zC5 Tryz.underlying4 rfl ((B0.below hb).cell 0)) (fun _ _ => rfl)) ?_
   refine zA (zC3 rfl (zB6 rfl) (zB8 rfl rfl) (fun _ => by kernel_rfl) (fun _ => rfl)) ?_
   refine zA (zC3 rfl (zB6 rfl) (zB7 (j:=3) (by kernel_rfl) rfl rfl) (fun _ => by kernel_rfl) (fun _ => rfl)) ?_
   refine zA (zC rfl (zB6 rfl) (zB7 (j:=4) (by kernel_rfl) rfl rfl) (fun w2 hb => zC5 Tryz.underlying4 rfl ((B1.below hb).cell 0)) (fun _ _ => rfl)) ?_
   refine zA (zG4 rfl (zB6 rfl) (zB7 (j:=2) (by kernel_rfl) rfl rfl) (zB7 (j:=5) (by kernel_rfl) rfl rfl) (fun _ _ _ hx hy => ⟨.bool false,by rw [hx,hy]; exact (zU3 _ _ _ _ Tryz.underlying4 _).trans (by rw [HE.out]),rfl⟩)) ?_
   refine zA (zC2 rfl (zB6 rfl) (zB7 (j:=6) (by kernel_rfl) rfl rfl) (fun _ _ h => h)) ?_
   refine zA (zJ3 (zD9 (c:=false) (b:=true) (g:=7) rfl (by kernel_rfl) rfl rfl rfl (by exact fun _ _ h => h)) (fun _ => trivial) rfl) ?_
   refine zA (zJ3 (zD9 (c:=false) (b:=true) (g:=7) rfl (by kernel_rfl) rfl rfl rfl (by exact fun _ _ h => h)) (fun _ => trivial) rfl) ?_
   refine zA (zJ3 (zD9 (c:=false) (b:=true) (g:=7) rfl (by kernel_rfl) rfl rfl rfl (by exact fun _ _ h => h)) (fun _ => trivial) rfl) ?_
   refine zA (zJ3 (zD9 (c:=false) (b:=true) (g:=7) rfl (by kernel_rfl) rfl rfl rfl (by exact fun _ _ h => h)) (fun _ => trivial) rfl) ?_
   refine zA (zJ3 (zD9 (c:=false) (b:=true) (g:=7) rfl (by kernel_rfl) rfl rfl rfl (by exact fun _ _ h => h)) (fun _ => trivial) rfl) ?_
   refine zA (zJ3 (zD9 (c:=false) (b:=true) (g:=7) rfl (by kernel_rfl) rfl rfl rfl (by exact fun _ _ h => h)) (fun _ => trivial) rfl) ?_
   refine zA (zJ3 (zD9 (c:=false) (b:=true) (g:=7) rfl (by kernel_rfl) rfl rfl rfl (by exact fun _ _ h => h)) (fun _ => trivial) rfl) ?_
   refine zA (zO9 (b:=false) rfl (zB6 rfl) (zB7 (j:=7) (by kernel_rfl) rfl rfl) (zH7 _) (fun _ _ h => h)) ?_
   refine zA (zC2 rfl (zB6 rfl) (zB7 (j:=15) (by kernel_rfl) rfl rfl) (fun _ _ h => h)) ?_
   refine zA (zJ3 (zD9 (c:=false) (b:=true) (g:=16) rfl (by kernel_rfl) rfl rfl rfl (by exact fun _ _ h => h)) (fun _ => trivial) rfl) ?_
   refine zA (zJ3 (zD9 (c:=false) (b:=true) (g:=16) rfl (by kernel_rfl) rfl rfl rfl (by exact fun _ _ h => h)) (fun _ => trivial) rfl) ?_
   refine zA (zJ3 (zD9 (c:=false) (b:=true) (g:=16) rfl (by kernel_rfl) rfl rfl rfl (by exact fun _ _ h => h)) (fun _ => trivial) rfl) ?_
   refine zA (zJ3 (zD9 (c:=false) (b:=true) (g:=16) rfl (by kernel_rfl) rfl rfl rfl (by exact fun _ _ h => h)) (fun _ => trivial) rfl) ?_
   refine zA (zJ3 (zD9 (c:=false) (b:=true) (g:=16) rfl (by kernel_rfl) rfl rfl rfl (by exact fun _ _ h => h)) (fun _ => trivial) rfl) ?_
   refine zA (zO9 (b:=false) rfl (zB6 rfl) (zB7 (j:=16) (by kernel_rfl) rfl rfl) (zH7 _) (fun _ _ h => h)) ?_
   refine zA (zE8 rfl (zB6 rfl) (zB7 (j:=22) (by kernel_rfl) rfl rfl) (fun _ _ h => h)) ?_
   trivial
  case done44 =>
   refine fun w1 hb1 v0 h0 v1 h1 v2 h2 v3 h3 v4 h4 v5 h5 v6 h6 v7 h7 v8 h8 v9 h9 v10 h10 v11 h11 v12 h12 v13 h13 v14 h14 v15 h15 v16 h16 v17 h17 v18 h18 v19 h19 v20 h20 v21 h21 v22 h22 v23 h23 b hbf => ?_
   obtain rfl:=h0; obtain rfl:=h1; obtain rfl:=h2; obtain rfl:=h3; obtain rfl:=h4; obtain rfl:=h5; obtain rfl:=h6; obtain rfl:=h7; obtain rfl:=h15; obtain rfl:=h16; obtain rfl:=h22; obtain rfl:=h23
   clear h8
   clear h9
   clear h10
   clear h11
   clear h12
   clear h13
   clear h14
   clear h17
   clear h18
   clear h19
   clear h20
   clear h21
   simp only [Act.put,zA0,zA2,zA1] at hbf
   subst hbf
   replace B0:=B0.below hb1
   replace k0s:=k0s.below hb1
   replace k0d:=k0d.below hb1
   replace k0z:=k0z.below hb1
   replace k0:=k0.below hb1
   replace B1:=B1.below hb1
   replace k1s:=k1s.below hb1
   replace k1d:=k1d.below hb1
   replace k1z:=k1z.below hb1
   replace k1:=k1.below hb1
   replace bb:=bb.trans (hb1.mono bb.size)
   have hsz1:=bb.size
   refine zD ?_
   go_wp2
   go_ret
   exact ⟨rfl,bb⟩
theorem qR0 (p : Elt) : (zJ9 p).length = 3:=rfl
theorem qE6 (ps : List Elt) : (zE6 ps).length = ps.length * 3:=by
 induction ps with
 | nil => rfl
 | cons p ps ih => show (zJ9 p ++ zE6 ps).length = _; rw [zA8,ih,qR0,List.length_cons]; omega
theorem zX5 (p : Elt) (ps : List Elt) : zE6 (p :: ps) = zJ9 p ++ zE6 ps:=rfl
theorem yD8 : ∀ (ps : List Elt) (i : Nat) (p : Elt),i < ps.length -> (zE6 ps).take (i * 3) ++ zJ9 p ++ (zE6 ps).drop (i * 3 + 3) = zE6 (ps.set i p)
  | [],i,p,h => by simp at h
  | q :: ps, 0, p, h => by
    rw [zA2,zX5,zX5]
    simp [zJ9]
  | q :: ps, i + 1, p, h => by
    have ih:=yD8 ps i p (by simpa using h)
    rw [zA1,zX5,zX5,<- ih,show (i + 1) * 3 = i * 3 + 1 + 1 + 1 from by omega,show i * 3 + 1 + 1 + 1 + 3 = i * 3 + 3 + 1 + 1 + 1 from by omega]
    simp [zJ9]
def zD0 (w : World) (g n : Nat) (qs : List Rat) : Prop:=∃ ps : List Elt,ps.length = n /\ qs.length <= n /\ Blk w g 83 (zE6 ps).toArray /\ (∀ p ∈ ps,(∃ A m c,p.2.1 = .slice A m c) /\ ∃ A m c,p.2.2 = .slice A m c) /\ ∀ (i : Nat) (q : Rat),qs[i]? = some q -> ∃ p,ps[i]? = some p /\ p.1 = q /\ IsE .u64 4294967296 w p
theorem zD0.below {w w' : World} {g n : Nat} {qs : List Rat} (h : zD0 w g n qs) (hb : Below w.heap.size w w') : zD0 w' g n qs:=by
 obtain ⟨ps,h1,h2,h3,h4,h5⟩:=h
 refine ⟨ps,h1,h2,h3.below hb,h4,fun i q hq => ?_⟩
 obtain ⟨p,k1,k2,k3⟩:=h5 i q hq
 exact ⟨p,k1,k2,k3.below hb⟩
theorem zD0.lt {w : World} {g n : Nat} {qs : List Rat} (h : zD0 w g n qs) : g < w.heap.size:=by
 obtain ⟨ps,_,_,h3,_⟩:=h
 exact h3.lt
theorem zD0.offb {w w' : World} {g g2 n : Nat} {qs : List Rat} {e : TypeId} {cs : Array Value} (h : zD0 w g n qs) (hB : w.heap[g2]? = some (.cells cs e (0,0))) (hno : ∀ c ∈ cs,∀ n,c ≠ .int .u64 n) (hg : w.grownBy w' (some g2)) (hne : g ≠ g2) : zD0 w' g n qs:=by
 obtain ⟨ps,h1,h2,h3,h4,h5⟩:=h
 refine ⟨ps,h1,h2,h3.grown hg hne,h4,fun i q hq => ?_⟩
 obtain ⟨p,k1,k2,k3⟩:=h5 i q hq
 exact ⟨p,k1,k2,Go.Proofs.YtagaabooccnamaaGreat.flow.off k3.1 hB hno hg,Go.Proofs.YtagaabooccnamaaGreat.flow.off k3.2 hB hno hg⟩
theorem yD9 {ps : List Elt} {c : Value} (h : c ∈ zE6 ps) : ∃ p ∈ ps,c ∈ zJ9 p:=List.mem_flatMap.1 h
theorem yE {k : IntKind} {ps : List Elt} (h4 : ∀ p ∈ ps,(∃ A m c,p.2.1 = .slice A m c) /\ ∃ A m c,p.2.2 = .slice A m c) : ∀ c ∈ (zE6 ps).toArray,∀ n,c ≠ .int k n:=by
 intro c hc n
 obtain ⟨p,hp,hc⟩:=yD9 (List.mem_toArray.1 hc)
 obtain ⟨⟨A,m,d,e1⟩,⟨A',m',d',e2⟩⟩:=h4 p hp
 simp only [zJ9,e1,e2,List.mem_cons,List.not_mem_nil,or_false] at hc
 rcases hc with rfl | rfl | rfl <;> simp
theorem zD0.keep {w w' : World} {g n : Nat} {qs : List Rat} {k : IntKind} {v : Value} {l : List Nat} (h : zD0 w g n qs) (hg : w.grownBy w' (some g)) (hs : IsS w k v l) : IsS w' k v l:=by
 obtain ⟨ps,_,_,h3,h4,_⟩:=h
 exact Go.Proofs.YtagaabooccnamaaGreat.flow.off hs h3 (yE h4) hg
theorem zD0.sl {w : World} {g n : Nat} {qs : List Rat} (h : zD0 w g n qs) (hn : qs.length = n) (hm : n <= 1000000000) : SlF .u64 4294967296 w (.slice (some ⟨g,0,none⟩) n n) qs:=by
  obtain ⟨ps,h1,h2,h3,h4,h5⟩:=h
  have key : ∀ (i : Nat) (p : Elt),ps[i]? = some p -> qs[i]? = some p.1 /\ IsE .u64 4294967296 w p:=by
    intro i p hp
    have hi:=(zA4.1 hp).1
    have hq : qs[i]? = some (qs[i]'(by omega)):=zA3 (by omega)
    obtain ⟨p',k1,k2,k3⟩:=h5 i _ hq
    rw [hp] at k1
    injection k1 with k1
    subst k1
    exact ⟨by rw [hq,k2],k3⟩
  refine ⟨ps,?_,⟨some ⟨g,0,none⟩,n,by rw [h1],by omega,by unfold maxLen; omega,fun i p hp => ⟨g,0,rfl,?_⟩⟩,fun p hp => ?_⟩
  · refine List.ext_getElem? fun i => ?_
    rw [zB1]
    cases hp : ps[i]? with
    | none =>
      have : ps.length <= i:=List.getElem?_eq_none_iff.1 hp
      rw [List.getElem?_eq_none (by omega)]; rfl
    | some p => rw [(key i p hp).1]; rfl
  · obtain ⟨f0,f1,f2⟩:=qI9 ps i p hp
    rw [Nat.zero_add]
    refine ⟨?_,?_,?_⟩
    · rw [h3.cell,List.getElem?_toArray]; exact f0
    · rw [h3.cell,List.getElem?_toArray]; exact f1
    · rw [h3.cell,List.getElem?_toArray]; exact f2
  · obtain ⟨i,hi⟩:=List.mem_iff_getElem?.1 hp
    exact (key i p hi).2
theorem yX8 {w : World} {g n : Nat} (h : Blk w g 83 (zE6 (zB n ((0,.slice none 0 0,.slice none 0 0) : Elt))).toArray) : zD0 w g n [] :=
 ⟨_,List.length_replicate,Nat.zero_le _,h,fun p hp => by obtain rfl:=(List.mem_replicate.1 hp).2; exact ⟨⟨_,_,_,rfl⟩,⟨_,_,_,rfl⟩⟩,fun i q hq => by simp at hq⟩
theorem made3 (n : Nat) : (madeCells #[.bool false,.slice none 0 0,.slice none 0 0] (n * 3)).toList = zE6 (zB n ((0,.slice none 0 0,.slice none 0 0) : Elt)):=by
  have key : ∀ n j : Nat,(zE6 (zB n ((0,.slice none 0 0,.slice none 0 0) : Elt)))[j]? = if j < n * 3 then some ((#[.bool false,.slice none 0 0,.slice none 0 0] : Array Value)[j % 3]?.getD undef) else none:=by
    intro n
    induction n with
    | zero => intro j; simp [zE6]
    | succ n ih =>
      intro j
      rw [List.replicate_succ,zX5]
      match j with
      | 0 => simp [zJ9,ngB]
      | 1 => simp [zJ9]; omega
      | 2 => simp [zJ9]; omega
      | j + 3 =>
        have e : (zJ9 ((0,.slice none 0 0,.slice none 0 0) : Elt) ++ zE6 (zB n ((0,.slice none 0 0,.slice none 0 0) : Elt)))[j + 3]? = (zE6 (zB n ((0,.slice none 0 0,.slice none 0 0) : Elt)))[j]?:=by simp [zJ9]
        rw [e,ih j]
        have h1 : (j + 3) % 3 = j % 3:=by omega
        rw [h1]
        by_cases h : j < n * 3
        · rw [if_pos h,if_pos (by omega)]
        · rw [if_neg h,if_neg (by omega)]
  apply List.ext_getElem?
  intro j
  rw [key n j]
  have h3 : j % 3 < 3:=Nat.mod_lt _ (by omega)
  by_cases h : j < n * 3
  · rw [if_pos h]
    rcases (by omega : j % 3 = 0 \/ j % 3 = 1 \/ j % 3 = 2) with e | e | e <;> simp [madeCells,h,e]
  · rw [if_neg h]
    simp [madeCells,h]
section
variable {P : Program}
theorem yE0 {w : World} {t : TypeId} (ht : P.underlying t = some (.slice 83)) (hI : ∃ i,P.info? 83 = some i /\ i.zero = some (.agg #[.bool false,.slice none 0 0,.slice none 0 0]) /\ i.size = 3 /\ i.bytes = 56) (n : Nat) (hn : n <= 1000000000) :
  ∃ w',(Instr.makeSlice t (.int .i64 (n : Int)) (.int .i64 (n : Int))).run P w = .ok (.slice (some ⟨w.heap.size,0,none⟩) n n) w' /\ zD0 w' w.heap.size n [] /\ Below w.heap.size w w':=by
 obtain ⟨i,hi,hz,hs,hb⟩:=hI
 obtain ⟨w',h1,h2,h3⟩:=run_make_full (P:=P) w w.heap.size t 83 i _ 3 ht hi hz hs .i64 .i64 n (by rw [hb]; omega) (by unfold maxLen; omega) (zB3 _)
 refine ⟨w',h1,yX8 ?_,(Below.refl _ w).grown h3 (zB3 _) (fun g hg => by cases hg)⟩
 obtain ⟨hl,h2⟩:=h2
 rcases h2 with ⟨h4,_⟩ | ⟨g,cap,cur,h4,_,h5,_,_,h6,h7⟩
 ·cases h4
 ·injection h4 with h4 _ h8
  injection h4 with h4
  injection h4 with h4 _ _
  subst h4; subst h8
  rw [zA7 (by simp [h6])] at h7
  have e : cur = (zE6 (zB n ((0,.slice none 0 0,.slice none 0 0) : Elt))).toArray:=by
   rw [<- made3]
   rw [show (Value.agg #[.bool false,.slice none 0 0,.slice none 0 0]).cells = #[.bool false,.slice none 0 0,.slice none 0 0] from rfl] at h7
   rw [<- h7]
  rw [<- e]
  exact h5
theorem yE1 {w : World} {ops : Array Oper} {rest : List Oper} {o : Oper} {a : Act} {Q : Exit -> Act -> World -> Prop} (hgd : o.guard = none) (lo co : Operand) {t : TypeId} (ho : o.op = Op.makeSlice t lo co)
  (ht : P.underlying t = some (.slice 83)) (hI : ∃ i,P.info? 83 = some i /\ i.zero = some (.agg #[.bool false,.slice none 0 0,.slice none 0 0]) /\ i.size = 3 /\ i.bytes = 56) (n : Nat) (hl : a.eval lo = .int .i64 (n : Int)) (hc : a.eval co = .int .i64 (n : Int)) (hn : n <= 1000000000)
  (h : ∀ w',zD0 w' w.heap.size n [] -> Below w.heap.size w w' -> wpList P ops Q rest (a.put o.dst (.slice (some ⟨w.heap.size,0,none⟩) n n)) w') : wpList P ops Q (o :: rest) a w:=by
 obtain ⟨w',h1,h2,h3⟩:=yE0 (P:=P) (w:=w) ht hI n hn
 refine wpList_plain hgd fun K hK => ?_
 unfold Oper.wp execOp
 simp only [ho,hl,hc,Sem.run_bind,h1,Result.andThen_ok]
 exact hK _ _ (h w' h2 h3)
theorem zD0.put {w w' : World} {g n i : Nat} {qs : List Rat} {q : Rat} {u t : Value} (h : zD0 w g n qs) (hi : i < n) (hu : IsS w .u64 u (digs 4294967296 q.num.natAbs)) (ht : IsS w .u64 t (digs 4294967296 q.den)) (hg : w.grownBy w' (some g)) (hc : ∀ cs,Blk w g 83 cs -> Blk w' g 83 (cs.toList.take (0 + i * 3) ++ [.bool (ngB q.num),u,t] ++ cs.toList.drop (0 + i * 3 + 3)).toArray) : (i = qs.length -> zD0 w' g n (qs ++ [q])) /\ (i < qs.length -> zD0 w' g n (qs.set i q)):=by
 have keep:=fun {k v l} => h.keep (k:=k) (v:=v) (l:=l) hg
 obtain ⟨ps,h1,h2,h3,h4,h5⟩:=h
 have hB : Blk w' g 83 (zE6 (ps.set i (q,u,t))).toArray:=by
  have h6:=hc _ h3
  rw [Nat.zero_add,List.toList_toArray] at h6
  rw [<- yD8 ps i (q,u,t) (by omega)]
  exact h6
 have hS : ∀ p ∈ ps.set i (q,u,t),(∃ A m c,p.2.1 = .slice A m c) /\ ∃ A m c,p.2.2 = .slice A m c:=by
  intro p hp
  rcases List.mem_or_eq_of_mem_set hp with hp | rfl
  ·exact h4 p hp
  ·obtain ⟨A,c,e1,_⟩:=hu
   obtain ⟨D,d,e2,_⟩:=ht
   exact ⟨⟨_,_,_,e1⟩,⟨_,_,_,e2⟩⟩
 have hE : IsE .u64 4294967296 w' ((q,u,t) : Elt):=⟨keep hu,keep ht⟩
 have old : ∀ (j : Nat) (x : Rat),j ≠ i -> qs[j]? = some x -> ∃ p,(ps.set i (q,u,t))[j]? = some p /\ p.1 = x /\ IsE .u64 4294967296 w' p:=by
  intro j x hj hx
  obtain ⟨p,k1,k2,k3⟩:=h5 j x hx
  exact ⟨p,by rw [List.getElem?_set_ne (fun e => hj e.symm)]; exact k1,k2,keep k3.1,keep k3.2⟩
 have new : (ps.set i (q,u,t))[i]? = some ((q,u,t) : Elt):=by rw [List.getElem?_set_self (by omega)]
 constructor
 ·intro hiq
  refine ⟨ps.set i (q,u,t),by rw [zB2]; exact h1,by simp; omega,hB,hS,fun j x hx => ?_⟩
  by_cases hj : j = i
  ·subst hj
   rw [hiq,List.getElem?_concat_length] at hx
   injection hx with hx
   subst hx
   exact ⟨_,new,rfl,hE⟩
  ·refine old j x hj ?_
   have hl:=(zA4.1 hx).1
   rw [zA8,List.length_singleton] at hl
   rwa [zB0 (by omega)] at hx
 ·intro hiq
  refine ⟨ps.set i (q,u,t),by rw [zB2]; exact h1,by simp; omega,hB,hS,fun j x hx => ?_⟩
  by_cases hj : j = i
  ·subst hj
   rw [List.getElem?_set_self hiq] at hx
   injection hx with hx
   subst hx
   exact ⟨_,new,rfl,hE⟩
  ·rw [List.getElem?_set_ne (fun e => hj e.symm)] at hx
   exact old j x hj hx
theorem yE2 (w : World) (g : Nat) (cs : Array Value) : w.grownBy (w.setRow g cs) (some g):=⟨rfl,rfl,rfl,by simp [World.setRow],fun k _ hk => setRow_other w g k cs (fun e => hk (by rw [e]))⟩
theorem yE3 {o : Oper} {a : Act} {w : World} {K : Act -> World -> Prop} {Q : Exit -> Act -> World -> Prop} {ty : TypeId} {x y : Operand} {g n i : Nat} {qs : List Rat} {q : Rat} {u t : Value} (hd : o.dst = none) (hop : o.op = .store ty x y) (hx : a.eval x = .pointer (some ⟨g,0 + i * 3,none⟩)) (hy : a.eval y = .agg #[.bool (ngB q.num),u,t])
    (hI : (P.info? ty).map (·.size) = some 3) (hR : zD0 w g n qs) (hi : i < n) (hu : IsS w .u64 u (digs 4294967296 q.num.natAbs)) (ht : IsS w .u64 t (digs 4294967296 q.den))
    (h : ∀ w',w.grownBy w' (some g) -> (i = qs.length -> zD0 w' g n (qs ++ [q])) /\ (i < qs.length -> zD0 w' g n (qs.set i q)) -> K a w') : o.wp P a w K Q:=by
  obtain ⟨ps,h1,h2,h3,h4,h5⟩:=id hR
  have one : ∀ v ∈ [Value.bool (ngB q.num),u,t],v.oneCell' = true:=by
    obtain ⟨A,c,rfl,_⟩:=id hu
    obtain ⟨D,d,rfl,_⟩:=id ht
    exact zI3 rfl rfl rfl
  have hrun:=run_storeCells_at (P:=P) g (0 + i * 3) 83 [Value.bool (ngB q.num),u,t] 0 (zE6 ps).toArray w h3 (by simp [qE6]; omega) one
  rw [Nat.add_zero] at hrun
  have key : ∀ (A : Addr) (W : World),(storeCells A [Value.bool (ngB q.num),u,t] 0).run P w = .ok () W -> (storeVar ty A (.agg #[.bool (ngB q.num),u,t])).run P w = .ok () W:=by
    intro A W hrun
    cases hq : P.info? ty with
    | none => simp [hq] at hI
    | some inf =>
      have hsz : 3 = inf.size:=by simp [hq] at hI; omega
      have e : (Value.agg #[.bool (ngB q.num),u,t]).cells = ([Value.bool (ngB q.num),u,t] : List Value).toArray:=rfl
      simp [storeVar,sizeOf,typeInfo,hq,e,<- hsz,hrun]
  have hst:=key _ _ hrun
  unfold Oper.wp execOp
  simp only [hop,hx,hy,Instr.storeAt,Instr.sureAddr,Sem.run_bind,Sem.run_pure,Result.andThen_ok,hst,Oper.upon_skip,hd]
  refine h _ (yE2 _ _ _) (hR.put hi hu ht (yE2 _ _ _) fun cs hcs => ?_)
  unfold Blk at hcs h3 |-
  rw [h3] at hcs
  injection hcs with hcs
  injection hcs with hcs
  subst hcs
  exact setRow_heap w g _ _ _ _ h3
theorem yE4 {Q : Exit -> Act -> World -> Prop} {ops : Array Oper} {o : Oper} {j : Nat} {rest : List Nat} {a : Act} {w : World} {ty : TypeId} {x y : Operand} {g n i : Nat} {qs : List Rat} {q : Rat} {u t : Value} (ho : ops[j]? = some o) (hgd : o.guard = none) (hd : o.dst = none) (hop : o.op = .store ty x y) (hx : a.eval x = .pointer (some ⟨g,0 + i * 3,none⟩)) (hy : a.eval y = .agg #[.bool (ngB q.num),u,t])
  (hI : (P.info? ty).map (·.size) = some 3) (hR : zD0 w g n qs) (hi : i < n) (hu : IsS w .u64 u (digs 4294967296 q.num.natAbs)) (ht : IsS w .u64 t (digs 4294967296 q.den))
  (h : ∀ w',w.grownBy w' (some g) -> (i = qs.length -> zD0 w' g n (qs ++ [q])) /\ (i < qs.length -> zD0 w' g n (qs.set i q)) -> wpOps P ops Q rest a w') : wpOps P ops Q (j :: rest) a w :=
 qH9 ho hgd (yE3 hd hop hx hy hI hR hi hu ht h)
theorem yX9 {Q : Exit -> Act -> World -> Prop} {ops : Array Oper} {o : Oper} {fuel j : Nat} {listed : Array Bool} {a : Act} {w : World} {ty : TypeId} {x y : Operand} {g n i : Nat} {qs : List Rat} {q : Rat} {u t : Value} (hr : Region.ready .any ops listed = [j]) (ho : ops[j]? = some o) (hgd : o.guard = none) (hd : o.dst = none) (hop : o.op = .store ty x y) (hx : a.eval x = .pointer (some ⟨g,0 + i * 3,none⟩)) (hy : a.eval y = .agg #[.bool (ngB q.num),u,t])
  (hI : (P.info? ty).map (·.size) = some 3) (hR : zD0 w g n qs) (hi : i < n) (hu : IsS w .u64 u (digs 4294967296 q.num.natAbs)) (ht : IsS w .u64 t (digs 4294967296 q.den))
  (h : ∀ w',w.grownBy w' (some g) -> (i = qs.length -> zD0 w' g n (qs ++ [q])) /\ (i < qs.length -> zD0 w' g n (qs.set i q)) -> wpAny P .any ops Q fuel (listed.setIfInBounds j true) a w') : wpAny P .any ops Q (fuel + 1) listed a w :=
 qH7 hr ho hgd (yE3 hd hop hx hy hI hR hi hu ht h)
end
/-! Calls through a function's value. -/
section
variable {P : Program} {Q : Exit -> Act -> World -> Prop} {ops : Array Oper} {L : List Oper} {Φ : List Pd} {w0 : World} {a0 : Act} {i : Nat} {o : Oper}
theorem yE5 (f : FuncId) : Ev L Φ w0 a0 o (.func f) (fun _ u => u = .func (.func f) #[] #[]):=fun _ _ _ => rfl
theorem yY {ρ : Operand -> Value} {f : FuncId} {z : Operand} {xs : Array Operand} {at_ : Array TypeId} {w : World} (hop : o.op = .call { callee:=.value z,args:=xs,argTypes:=at_ }) (hρ : ρ z = .func (.func f) #[] #[]) {args : Array Value} (ha : xs.map ρ = args) : (execOp ρ o).run P w = (callFunc f args).run P w:=by
 subst ha
 unfold execOp
 simp [hop,resolve,hρ,Deferred.ofValue,invoke]
theorem qK {f : FuncId} {fn : Func} {z x y : Operand} {at_ : Array TypeId} {F G : World -> Value -> Prop} (hop : o.op = .call { callee := .value z, args := #[x, y], argTypes := at_ }) (hz : Ev L Φ w0 a0 o z (fun _ u => u = .func (.func f) #[] #[])) (hf : P.funcs[f]? = some fn) (hB : (!(fn.name == "runtime.NumGoroutine") && fn.body.isSome) = true) (hw : Wt ops L Φ w0 a0 o true)
  (hx : Ev L Φ w0 a0 o x F) (hy : Ev L Φ w0 a0 o y G) (hc : ∀ w u v,Below w0.heap.size w0 w -> F w u -> G w v -> Calls P f #[u,v] w (zI7 (ph Φ i) w)) : Ob P Q ops L Φ w0 a0 i o :=
 qH5 hf hB hw (by unfold isA; rw [hop]) fun ms w hS => ⟨#[(zD6 a0 L ms).eval x,(zD6 a0 L ms).eval y],yY hop (hz ms w hS) (by simp),hc w _ _ hS.below (hx ms w hS) (hy ms w hS)⟩
end
def RetRN (qs : List Rat) (w : World) (e : Ending) (w' : World) : Prop:=∃ g,e = .returned (.tuple #[.slice (some ⟨g,0,none⟩) qs.length qs.length,.int .i64 0]) /\ zD0 w' g qs.length qs /\ w.heap.size <= g /\ Below w.heap.size w w'
section
variable {P : Program} {Q : Exit -> Act -> World -> Prop} {ops : Array Oper} {L : List Oper} {Φ : List Pd} {w0 : World} {a0 : Act} {i : Nat} {o : Oper}
end
theorem qA2.row {w w' : World} {g G n : Nat} {ls : List Rat} {s : Rat} (h : qA2 w G s) (hR : zD0 w g n ls) (hg : w.grownBy w' (some g)) (hR' : zD0 w' g n (ls ++ [s])) : qA2 w' G s:=by
 obtain ⟨u,t,h1,h2,h3⟩:=h
 by_cases e : g = G
 ·subst e
  obtain ⟨ps,k1,k2,k3,k4,k5⟩:=id hR
  have e1 : ps.length = 1:=by
   unfold Blk at k3 h1
   rw [k3] at h1
   injection h1 with h1
   injection h1 with h1
   have:=congrArg Array.size h1
   rw [List.size_toArray,qE6] at this
   simp at this
   omega
  obtain ⟨rs,r1,r2,r3,r4,r5⟩:=hR'
  have e2 : ls = []:=by
   rw [zA8,List.length_singleton] at r2
   exact List.length_eq_zero_iff.1 (by omega)
  subst e2
  obtain ⟨p,q1,q2,q3⟩:=r5 0 s rfl
  obtain ⟨r,rfl⟩ : ∃ r,rs = [r]:=List.length_eq_one_iff.1 (by omega)
  obtain rfl : r = p:=by simpa using q1
  subst q2
  exact ⟨r.2.1,r.2.2,r3,q3.1,q3.2⟩
 ·exact ⟨u,t,h1.grown hg (fun e' => e e'.symm),hR.keep hg h2,hR.keep hg h3⟩
theorem zQ0 (g i : Nat) : (⟨g,0,none⟩ : Addr).add i = ⟨g,i,none⟩:=by
 unfold Addr.add
 by_cases h : i = 0
 ·simp [h]
 ·simp [h]
def zF9 (w : World) (g : Nat) (TS : TypeId) (us : List Value) : Prop:=Blk w g TS us.toArray /\ ∀ u ∈ us,∃ A n c,u = .slice A n c
theorem zF9.below {w w' : World} {g : Nat} {TS : TypeId} {us : List Value} (h : zF9 w g TS us) (hb : Below w.heap.size w w') : zF9 w' g TS us:=⟨h.1.below hb,h.2⟩
theorem zF9.lt {w : World} {g : Nat} {TS : TypeId} {us : List Value} (h : zF9 w g TS us) : g < w.heap.size:=h.1.lt
theorem zF9.cell {w : World} {g : Nat} {TS : TypeId} {us : List Value} (h : zF9 w g TS us) {i : Nat} {u : Value} (hu : us[i]? = some u) : w.cell? ((⟨g,0,none⟩ : Addr).add i) = some u:=by
 rw [zQ0,h.1.cell,List.getElem?_toArray]; exact hu
theorem zF9.keep {w w' : World} {g : Nat} {TS : TypeId} {us : List Value} {k : IntKind} {v : Value} {l : List Nat} (h : zF9 w g TS us) (hg : w.grownBy w' (some g)) (hs : IsS w k v l) : IsS w' k v l :=
 Go.Proofs.YtagaabooccnamaaGreat.flow.off hs h.1 (fun c hc n e => by
  obtain ⟨A,m,d,e1⟩:=h.2 c (List.mem_toArray.1 hc)
  rw [e1] at e
  cases e) hg
theorem zF9.keepF {w w' : World} {g : Nat} {TS : TypeId} {us : List Value} {k : IntKind} {B : Nat} {v : Value} {r : List Rat} (h : zF9 w g TS us) (hg : w.grownBy w' (some g)) (hs : SlF k B w v r) : SlF k B w' v r:=by
 obtain ⟨ps,h1,⟨A,c,e,h2,h3,h4⟩,h5⟩:=hs
 refine ⟨ps,h1,⟨A,c,e,h2,h3,fun i p hp => ?_⟩,fun p hp => ⟨h.keep hg (h5 p hp).1,h.keep hg (h5 p hp).2⟩⟩
 obtain ⟨g',o,e2,c0,c1,c2⟩:=h4 i p hp
 have hne : some g' ≠ some g:=by
  intro e3
  injection e3 with e3
  subst e3
  rw [h.1.cell,List.getElem?_toArray] at c0
  obtain ⟨A',m,d,e4⟩:=h.2 _ (zA5 c0)
  cases e4
 exact ⟨g',o,e2,hg.cell c0 hne,hg.cell c1 hne,hg.cell c2 hne⟩
theorem zF9.put {w w' : World} {g i : Nat} {TS : TypeId} {us : List Value} {u : Value} (h : zF9 w g TS us) (hB : w'.heap[g]? = some (.cells (us.toArray.setIfInBounds i u) TS (0,0))) (hu : ∃ A n c,u = .slice A n c) : zF9 w' g TS (us.set i u):=by
 refine ⟨by unfold Blk; rw [hB]; simp,fun v hv => ?_⟩
 rcases List.mem_or_eq_of_mem_set hv with hv | rfl
 ·exact h.2 v hv
 ·exact hu
theorem zF9.grown {w w' : World} {g : Nat} {TS : TypeId} {us : List Value} {row : Option Nat} (h : zF9 w g TS us) (hg : w.grownBy w' row) (hne : row ≠ some g) : zF9 w' g TS us :=
 ⟨(hg.block g h.1.lt (fun e => hne e.symm)).trans h.1,h.2⟩
def zE0 (k : IntKind) (B : Nat) (w : World) (g : Nat) (TS : TypeId) (us : List Value) (t : List (List Rat)) : Prop:=zF9 w g TS us /\ us.length = t.length /\ ∀ (i : Nat) (u : Value) (r : List Rat),us[i]? = some u -> t[i]? = some r -> SlF k B w u r
theorem zE0.below {k : IntKind} {B : Nat} {w w' : World} {g : Nat} {TS : TypeId} {us : List Value} {t : List (List Rat)} (h : zE0 k B w g TS us t) (hb : Below w.heap.size w w') : zE0 k B w' g TS us t:=⟨h.1.below hb,h.2.1,fun i u r hu hr => (h.2.2 i u r hu hr).below hb⟩
theorem zE0.drew {k : IntKind} {B : Nat} {w : World} {g : Nat} {TS : TypeId} {us : List Value} {t : List (List Rat)} (h : zE0 k B w g TS us t) : zE0 k B w.drew g TS us t:=h.below (Below.refl _ w).drew
theorem zE0.lt {k : IntKind} {B : Nat} {w : World} {g : Nat} {TS : TypeId} {us : List Value} {t : List (List Rat)} (h : zE0 k B w g TS us t) : g < w.heap.size:=h.1.lt
theorem zE0.put {k : IntKind} {B : Nat} {w w' : World} {g i : Nat} {TS : TypeId} {us : List Value} {t : List (List Rat)} {u : Value} {r : List Rat} (h : zE0 k B w g TS us t) (hg : w.grownBy w' (some g)) (hB : w'.heap[g]? = some (.cells (us.toArray.setIfInBounds i u) TS (0,0))) (hu : SlF k B w u r) : zE0 k B w' g TS (us.set i u) (t.set i r):=by
 obtain ⟨A,c,eu,_⟩:=hu.shape
 refine ⟨h.1.put hB ⟨_,_,_,eu⟩,by rw [zB2,zB2]; exact h.2.1,fun j x y hx hy => ?_⟩
 by_cases hj : i = j
 ·subst hj
  have hi : i < us.length:=by have:=(zA4.1 hx).1; rwa [zB2] at this
  rw [List.getElem?_set_self hi] at hx
  rw [List.getElem?_set_self (by rw [<- h.2.1]; exact hi)] at hy
  injection hx with hx
  injection hy with hy
  subst hx; subst hy
  exact h.1.keepF hg hu
 ·rw [List.getElem?_set_ne hj] at hx hy
  exact h.1.keepF hg (h.2.2 j x y hx hy)
theorem zE0.slT {k : IntKind} {B : Nat} {w : World} {g n : Nat} {TS : TypeId} {us : List Value} {t : List (List Rat)} (h : zE0 k B w g TS us t) (hn : t.length = n) (hm : n <= 1000000000) : SlT k B w (.slice (some ⟨g,0,none⟩) n n) t :=
 ⟨us,h.2.1,⟨some ⟨g,0,none⟩,n,by rw [h.2.1,hn],by rw [h.2.1,hn]; exact zB3 _,by unfold maxLen; omega,fun i u hu => ⟨_,rfl,h.1.cell hu⟩⟩,h.2.2⟩
section
variable {P : Program}
theorem qK0 {w : World} {t TS : TypeId} (ht : P.underlying t = some (.slice TS)) (hI : ∃ i,P.info? TS = some i /\ i.zero = some (.slice none 0 0) /\ i.size = 1 /\ i.bytes = 24) (n : Nat) (hn : n <= 1000000000) :
  ∃ w',(Instr.makeSlice t (.int .i64 (n : Int)) (.int .i64 (n : Int))).run P w = .ok (.slice (some ⟨w.heap.size,0,none⟩) n n) w' /\ zF9 w' w.heap.size TS (zB n (.slice none 0 0)) /\ Below w.heap.size w w':=by
 obtain ⟨i,hi,hz,hs,hb⟩:=hI
 obtain ⟨w',h1,h2,h3⟩:=run_make_full (P:=P) w w.heap.size t TS i _ 1 ht hi hz hs .i64 .i64 n (by rw [hb]; omega) (by unfold maxLen; omega) (zB3 _)
 refine ⟨w',h1,⟨?_,fun u hu => ⟨_,_,_,(List.mem_replicate.1 hu).2⟩⟩,(Below.refl _ w).grown h3 (zB3 _) (fun g hg => by cases hg)⟩
 obtain ⟨hl,h2⟩:=h2
 rcases h2 with ⟨h4,_⟩ | ⟨g,cap,cur,h4,_,h5,_,_,h6,h7⟩
 ·cases h4
 ·injection h4 with h4 _ h8
  injection h4 with h4
  injection h4 with h4 _ _
  subst h4; subst h8
  rw [zA7 (by simp [h6])] at h7
  have e : cur = (zB n (Value.slice none 0 0)).toArray:=by
   have e1 : (madeCells (Value.slice none 0 0).cells (n * 1)).toList = zB n (.slice none 0 0):=by rw [Nat.mul_one]; exact toList_madeCells_one _ _
   rw [<- e1,<- h7]
  rw [<- e]
  exact h5
end
end Go.Proofs.YtagaabooccnamaaGreat.rat
namespace Go.Proofs.YtagaabooccnamaaGreat.flow
open Go.RowKit num mem whl rat
def pbar (n : Nat) (TS : TypeId) (B : Nat) : Pd:=⟨fun w v => ∃ g,v = .slice (some ⟨g,0,none⟩) n n /\ zF9 w g TS (zB n (.slice none 0 0)) /\ B <= g,fun h hb => by obtain ⟨g,e,h1,h2⟩:=h; exact ⟨g,e,h1.below hb,h2⟩⟩
section
variable {P : Program} {Q : Exit -> Act -> World -> Prop} {ops : Array Oper} {L : List Oper} {Φ : List Pd} {w0 : World} {a0 : Act} {i : Nat} {o : Oper}
theorem yY0 {t TS : TypeId} {x y : Operand} (n : Nat) (hop : o.op = .makeSlice t x y) (hg : o.guard = none) (hx : Ev L Φ w0 a0 o x (fun _ u => u = .int .i64 (n : Int))) (hy : Ev L Φ w0 a0 o y (fun _ u => u = .int .i64 (n : Int))) (ht : P.underlying t = some (.slice TS)) (hI : ∃ i,P.info? TS = some i /\ i.zero = some (.slice none 0 0) /\ i.size = 1 /\ i.bytes = 24) (hn : n <= 1000000000)
  (hP : ∀ w v,(pbar n TS w0.heap.size).p w v -> (ph Φ i).p w v) : Ob P Q ops L Φ w0 a0 i o:=by
 intro ms w hS
 rw [if_pos (zB6 (ops:=ops) (L:=L) (Φ:=Φ) (w0:=w0) (a0:=a0) hg ms w hS)]
 obtain ⟨w',h1,h2,h3⟩:=qK0 (P:=P) (w:=w) ht hI n hn
 have hr : (execOp (zD6 a0 L ms).eval o).run P w = .ok (.value (.slice (some ⟨w.heap.size,0,none⟩) n n)) w':=by
  unfold execOp
  simp only [hop,hx ms w hS,hy ms w hS,Sem.run_bind,h1,Result.andThen_ok]
  rfl
 unfold Oper.wp
 rw [hr]
 exact ⟨_,rfl,h3,hP _ _ ⟨_,rfl,h2,hS.below.size⟩,fun h => by unfold isA at h; rw [hop] at h; cases h⟩
end
end Go.Proofs.YtagaabooccnamaaGreat.flow
namespace Go.Proofs.YtagaabooccnamaaGreat.rat
open Go.RowKit num mem nat txt str flow whl
structure TabO (k : IntKind) (B : Nat) (T : TypeId) (w : World) (base : Nat) (TS : TypeId) (V : Value) (us : List Value) (pss : List (List Elt)) : Prop where
 row : zE7 w base TS V us
 len : us.length = pss.length
 own : ∀ (i : Nat) (u : Value) (ps : List Elt),us[i]? = some u -> pss[i]? = some ps -> zD2 T w base u ps
 far : ∀ u ∈ us,∀ ps ∈ pss,zG5 k B w u ps
 farV : ∀ ps ∈ pss,zG5 k B w V ps
 apart : ∀ (i j : Nat) (u v : Value),i ≠ j -> us[i]? = some u -> us[j]? = some v -> ∀ h,u.ownBlock = some h -> v.ownBlock ≠ some h
theorem TabO.below {k : IntKind} {B : Nat} {T : TypeId} {w w' : World} {base : Nat} {TS : TypeId} {V : Value} {us : List Value} {pss : List (List Elt)} (h : TabO k B T w base TS V us pss) (hb : Below w.heap.size w w') : TabO k B T w' base TS V us pss :=
 ⟨h.row.below hb,h.len,fun i u ps hu hp => (h.own i u ps hu hp).below hb,fun u hu ps hp => (h.far u hu ps hp).below hb,fun ps hp => (h.farV ps hp).below hb,h.apart⟩
def zG1 (pss : List (List Elt)) : List (List Rat):=pss.map fun ps => ps.map (·.1)
theorem TabO.slT {k : IntKind} {B : Nat} {T : TypeId} {w : World} {base : Nat} {TS : TypeId} {V : Value} {us : List Value} {pss : List (List Elt)} (h : TabO k B T w base TS V us pss) : SlT k B w V (zG1 pss):=by
  refine ⟨us,by rw [zG1,zA9]; exact h.len,?_,fun i u r hu hr => ?_⟩
  · rcases h.row.2 with ⟨rfl,h0⟩ | ⟨g,cap,cur,rfl,_,hg,hn,hm,_,_⟩
    · obtain rfl : us = []:=List.length_eq_zero_iff.1 h0
      exact ⟨none,0,rfl,by simp,by unfold maxLen; omega,fun i u hu => by simp at hu⟩
    · exact ⟨_,cap,rfl,hn,hm,fun i u hu => ⟨_,rfl,World.ownsRow.cells h.row (g:=g) rfl i u hu⟩⟩
  rw [zG1,zB1] at hr
  cases hp : pss[i]? with
  | none => rw [hp] at hr; cases hr
  | some ps =>
    rw [hp] at hr
    obtain rfl : ps.map (·.1) = r:=by simpa using hr
    exact (h.own i u ps hu hp).sl (h.far u (zA5 hu) ps (zA5 hp))
theorem zF9.rowV {w : World} {base g n : Nat} {TS : TypeId} {us : List Value} (h : zF9 w g TS us) (hn : us.length = n) (hb : base <= g) (hm : n <= 1000000000) : zE7 w base TS (.slice (some ⟨g,0,none⟩) n n) us:=by
 unfold zE7
 rw [hn]
 exact ⟨by simp [hn],.inr ⟨g,n,us.toArray,rfl,hb,h.1,zB3 _,by unfold maxLen; omega,by simp [hn],by simp [<- hn]⟩⟩
theorem zF9.owned {k : IntKind} {B : Nat} {T : TypeId} {w : World} {base g n : Nat} {TS : TypeId} (h : zF9 w g TS (zB n (.slice none 0 0))) (hb : base <= g) (hm : n <= 1000000000) : TabO k B T w base TS (.slice (some ⟨g,0,none⟩) n n) (zB n (.slice none 0 0)) (zB n []):=by
 have key : ∀ u ∈ zB n (Value.slice none 0 0),u = .slice none 0 0:=fun u hu => (List.mem_replicate.1 hu).2
 refine ⟨h.rowV (by simp) hb hm,by simp,fun i u ps hu hp => ?_,fun u hu ps hp => ?_,fun ps hp => ?_,fun i j u v _ hu hv q hq => ?_⟩
 ·have h1:=key u (zA5 hu)
  have h2:=(List.mem_replicate.1 (zA5 hp)).2
  subst h1; subst h2
  exact yB3 _ _ _
 ·rw [(List.mem_replicate.1 hp).2]
  exact zG5.nil _ _ _ _
 ·rw [(List.mem_replicate.1 hp).2]
  exact zG5.nil _ _ _ _
 ·rw [key u (zA5 hu)] at hq
  cases hq
theorem zD2.notRow {T TS : TypeId} {w : World} {base base' : Nat} {v V : Value} {ps : List Elt} {us : List Value} (h : zD2 T w base v ps) (hV : zE7 w base' TS V us) (hne : T ≠ TS) : ∀ g,v.ownBlock = some g -> V.ownBlock ≠ some g:=by
 intro g e e2
 rcases h.2 with ⟨rfl,_⟩ | ⟨g',cap,cur,rfl,_,hg,_⟩
 ·cases e
 ·rcases hV.2 with ⟨rfl,_⟩ | ⟨g2,cap2,cur2,rfl,_,hg2,_⟩
  ·cases e2
  ·have e1 : g' = g:=by simpa [Value.ownBlock] using e
   have e3 : g2 = g:=by simpa [Value.ownBlock] using e2
   subst e1; subst e3
   rw [hg] at hg2
   injection hg2 with hg2
   injection hg2 with _ hg2
   exact hne hg2
theorem zR5 {α : Type} {l : List α} {i j : Nat} {a x : α} (h : (l.set i a)[j]? = some x) : (i = j /\ x = a) \/ (i ≠ j /\ l[j]? = some x):=by
 by_cases e : i = j
 ·subst e
  have hi : i < l.length:=by have:=(zA4.1 h).1; rwa [zB2] at this
  rw [List.getElem?_set_self hi] at h
  injection h with h
  exact .inl ⟨rfl,h.symm⟩
 ·rw [List.getElem?_set_ne e] at h
  exact .inr ⟨e,h⟩
theorem TabO.put {k : IntKind} {B : Nat} {T : TypeId} {w w1 : World} {base g n c i : Nat} {TS : TypeId} {us : List Value} {pss : List (List Elt)} {u u' : Value} {ps new : List Elt} (hT : T ≠ TS) (h : TabO k B T w base TS (.slice (some ⟨g,0,none⟩) n c) us pss) (hu : us[i]? = some u) (hps : pss[i]? = some ps) (hrow : zD2 T w1 base u' (ps ++ new)) (hgr : zI5 w w1 u u') (hnew : zG5 k B w1 u' new) (hfar : ∀ v ∈ us,∀ p ∈ new,Far v p.2.1 /\ Far v p.2.2) (hfarV : ∀ p ∈ new,Far (.slice (some ⟨g,0,none⟩) n c) p.2.1 /\ Far (.slice (some ⟨g,0,none⟩) n c) p.2.2) :
  TabO k B T (w1.setCell ⟨g,i,none⟩ u') base TS (.slice (some ⟨g,0,none⟩) n c) (us.set i u') (pss.set i (ps ++ new)):=by
 obtain ⟨k1,k2,k3⟩:=hgr
 have hui:=h.own i u ps hu hps
 have hs:=zF0 w1 g i u'
 have hV : Value.ownBlock (.slice (some ⟨g,0,none⟩) n c) = some g:=rfl
 have hng : u.ownBlock ≠ some g:=fun e => hui.notRow h.row hT g e hV
 have ht1 : zE7 w1 base TS (.slice (some ⟨g,0,none⟩) n c) us:=World.ownsRow.kept (row:=u.ownBlock) h.row k2 (.inr (by rw [hV]; exact fun e => hng e.symm))
 have hum:=zA5 hu
 have off2 : ∀ {l : List Nat} {x : Value},IsS w1 k x l -> Far (.slice (some ⟨g,0,none⟩) n c) x -> IsS (w1.setCell ⟨g,i,none⟩ u') k x l:=fun a b => a.farKept b hs
 have lift : ∀ p,IsE k B w p -> Far u p.2.1 -> Far u p.2.2 -> Far (.slice (some ⟨g,0,none⟩) n c) p.2.1 -> Far (.slice (some ⟨g,0,none⟩) n c) p.2.2 -> IsE k B (w1.setCell ⟨g,i,none⟩ u') p /\ Far u' p.2.1 /\ Far u' p.2.2:=fun p a b c d e => by
  have x1:=k1 _ _ _ a.1 b
  have x2:=k1 _ _ _ a.2 c
  exact ⟨⟨off2 x1.1 d,off2 x2.1 e⟩,x1.2,x2.2⟩
 have hall : ∀ qs ∈ pss.set i (ps ++ new),∀ p ∈ qs,IsE k B (w1.setCell ⟨g,i,none⟩ u') p /\ (Far u' p.2.1 /\ Far u' p.2.2) /\ (∀ v ∈ us,Far v p.2.1 /\ Far v p.2.2) /\ Far (.slice (some ⟨g,0,none⟩) n c) p.2.1 /\ Far (.slice (some ⟨g,0,none⟩) n c) p.2.2:=by
  intro qs hqs p hp
  have hpq : (p ∈ new) \/ ∃ qs' ∈ pss,p ∈ qs':=by
   rcases List.mem_or_eq_of_mem_set hqs with hqs | rfl
   ·exact .inr ⟨qs,hqs,hp⟩
   ·rcases List.mem_append.1 hp with hp | hp
    ·exact .inr ⟨ps,zA5 hps,hp⟩
    ·exact .inl hp
  rcases hpq with hp | ⟨qs',hq',hp⟩
  ·obtain ⟨e1,f1,f2⟩:=hnew p hp
   have fV:=hfarV p hp
   exact ⟨⟨off2 e1.1 fV.1,off2 e1.2 fV.2⟩,⟨f1,f2⟩,fun v hv => hfar v hv p hp,fV⟩
  ·obtain ⟨e1,f1,f2⟩:=h.far u hum qs' hq' p hp
   have fV:=(h.farV qs' hq' p hp).2
   obtain ⟨e2,f3,f4⟩:=lift p e1 f1 f2 fV.1 fV.2
   exact ⟨e2,⟨f3,f4⟩,fun v hv => (h.far v hv qs' hq' p hp).2,fV⟩
 refine ⟨ht1.stored i u',by rw [zB2,zB2]; exact h.len,fun j x y hx hy => ?_,fun v hv qs hqs p hp => ?_,fun qs hqs p hp => ⟨(hall qs hqs p hp).1,(hall qs hqs p hp).2.2.2⟩,fun a b x y hab hx hy q hq hq2 => ?_⟩
 ·rcases zR5 hx with ⟨rfl,rfl⟩ | ⟨hj,hx⟩
  ·rcases zR5 hy with ⟨_,rfl⟩ | ⟨hj,_⟩
   ·exact hrow.other hs fun q hq e => hrow.notRow ht1 hT q hq e
   ·exact absurd rfl hj
  ·rcases zR5 hy with ⟨e,_⟩ | ⟨_,hy⟩
   ·exact absurd e hj
   ·have r0:=h.own j x y hx hy
    have r1:=r0.other k2 fun q hq e => h.apart i j u x hj hu hx q e hq
    exact r1.other hs fun q hq e => r1.notRow ht1 hT q hq e
 ·obtain ⟨e1,f1,f2,_⟩:=hall qs hqs p hp
  refine ⟨e1,?_⟩
  rcases List.mem_or_eq_of_mem_set hv with hv | rfl
  ·exact f2 v hv
  ·exact f1
 ·rcases zR5 hx with ⟨rfl,rfl⟩ | ⟨ha,hx1⟩
  ·rcases zR5 hy with ⟨e,_⟩ | ⟨_,hy⟩
   ·exact hab e
   ·obtain ⟨pb,hpb⟩ : ∃ pb,pss[b]? = some pb:=⟨_,zA3 (by rw [<- h.len]; exact (zA4.1 hy).1)⟩
    have hlt:=(h.own b y pb hy hpb).under q hq2
    exact k3 q hlt (fun e => h.apart i b u y hab hu hy q e hq2) hq
  ·rcases zR5 hy with ⟨rfl,rfl⟩ | ⟨hb,hy1⟩
   ·obtain ⟨pa,hpa⟩ : ∃ pa,pss[a]? = some pa:=⟨_,zA3 (by rw [<- h.len]; exact (zA4.1 hx1).1)⟩
    have hlt:=(h.own a x pa hx1 hpa).under q hq
    exact k3 q hlt (fun e => h.apart i a u x ha hu hx1 q e hq) hq2
   ·exact h.apart a b x y hab hx1 hy1 q hq hq2
theorem TabO.cell {k : IntKind} {B : Nat} {T : TypeId} {w : World} {base g n c : Nat} {TS : TypeId} {us : List Value} {pss : List (List Elt)} (h : TabO k B T w base TS (.slice (some ⟨g,0,none⟩) n c) us pss) {i : Nat} {u : Value} (hu : us[i]? = some u) : w.cell? ⟨g,i,none⟩ = some u:=h.row.cellAt hu
theorem TabO.farNew {k : IntKind} {B : Nat} {T : TypeId} {w : World} {base : Nat} {TS : TypeId} {V : Value} {us : List Value} {pss : List (List Elt)} (h : TabO k B T w base TS V us pss) {x : Value} (hx : zD7 w.heap.size x) : (∀ v ∈ us,Far v x) /\ Far V x:=by
 refine ⟨fun v hv => ?_,hx.far h.row.under⟩
 obtain ⟨i,hi⟩:=List.mem_iff_getElem?.1 hv
 obtain ⟨ps,hp⟩ : ∃ ps,pss[i]? = some ps:=⟨_,zA3 (by rw [<- h.len]; exact (zA4.1 hi).1)⟩
 exact hx.far (h.own i v ps hi hp).under
theorem yY1 (pss : List (List Elt)) (i : Nat) (ps : List Elt) : zG1 (pss.set i ps) = (zG1 pss).set i (ps.map (·.1)):=by rw [zG1,List.map_set]; rfl
theorem valq_at {pss : List (List Elt)} {i : Nat} {ps : List Elt} (h : pss[i]? = some ps) : (zG1 pss)[i]? = some (ps.map (·.1)):=by rw [zG1,zB1,h]; rfl
theorem yE6 (pss : List (List Elt)) : (zG1 pss).length = pss.length:=zA9 _
theorem yY2 (n : Nat) : zG1 (zB n []) = zB n []:=by rw [zG1,List.map_replicate]; rfl
def zN (w : World) (v : Value) (ts : List (List (List Rat))) : Prop:=∃ us : List Value,us.length = ts.length /\ IsV w v us /\ us.length <= 1000000 /\ ∀ (i : Nat) (u : Value) (t : List (List Rat)),us[i]? = some u -> ts[i]? = some t -> SlT .u64 4294967296 w u t
theorem zN.below {w w' : World} {v : Value} {ts : List (List (List Rat))} (h : zN w v ts) (hb : Below w.heap.size w w') : zN w' v ts:=by
 obtain ⟨us,h1,h2,h3,h4⟩:=h
 exact ⟨us,h1,h2.below hb,h3,fun i u t hu ht => (h4 i u t hu ht).below hb⟩
theorem zN.shape {w : World} {v : Value} {ts : List (List (List Rat))} (h : zN w v ts) : ∃ A c,v = .slice A ts.length c /\ ts.length <= c:=by
 obtain ⟨us,h1,⟨A,c,e,h2,_⟩,_⟩:=h
 exact ⟨A,c,by rw [e,h1],by omega⟩
theorem zN.at_ {w : World} {A : Option Addr} {n c i : Nat} {ts : List (List (List Rat))} {t : List (List Rat)} (h : zN w (.slice A n c) ts) (hr : ts[i]? = some t) : ∃ ad Ar cr,A = some ad /\ i < n /\ w.cell? (ad.add i) = some (.slice Ar t.length cr) /\ SlT .u64 4294967296 w (.slice Ar t.length cr) t:=by
 obtain ⟨us,h1,⟨A',c',e,h2,h3⟩,_,h5⟩:=h
 injection e with e1 e2 e3
 subst e1; subst e2; subst e3
 have hi : i < us.length:=by have:=(zA4.1 hr).1; omega
 obtain ⟨ad,ha,hc⟩:=h3 i _ (zA3 hi)
 have hs:=h5 i _ t (zA3 hi) hr
 obtain ⟨Ar,cr,e,_,_⟩:=hs.shape
 rw [e] at hc hs
 exact ⟨ad,Ar,cr,ha,hi,hc,hs⟩
theorem SlT.place {k : IntKind} {B : Nat} {w : World} {A : Option Addr} {n c : Nat} {t : List (List Rat)} (h : SlT k B w (.slice A n c) t) (hne : t ≠ []) : ∃ ad,A = some ad:=by
 obtain ⟨r,hr⟩ : ∃ r,t[0]? = some r:=⟨_,zA3 (List.length_pos_iff.2 hne)⟩
 obtain ⟨ad,_,_,e,_⟩:=h.at_ hr
 exact ⟨ad,e⟩
theorem SlT.at2 {k : IntKind} {B : Nat} {w : World} {ad : Addr} {n c i : Nat} {t : List (List Rat)} {r : List Rat} (h : SlT k B w (.slice (some ad) n c) t) (hr : t[i]? = some r) : ∃ Ar cr,i < n /\ w.cell? (ad.add i) = some (.slice Ar r.length cr) /\ SlF k B w (.slice Ar r.length cr) r:=by
 obtain ⟨ad',Ar,cr,e,h1,h2,h3⟩:=h.at_ hr
 injection e with e
 subst e
 exact ⟨Ar,cr,h1,h2,h3⟩
theorem zN.place {w : World} {A : Option Addr} {n c : Nat} {ts : List (List (List Rat))} (h : zN w (.slice A n c) ts) (hne : ts ≠ []) : ∃ ad,A = some ad:=by
 obtain ⟨r,hr⟩ : ∃ r,ts[0]? = some r:=⟨_,zA3 (List.length_pos_iff.2 hne)⟩
 obtain ⟨ad,_,_,e,_⟩:=h.at_ hr
 exact ⟨ad,e⟩
theorem zN.at2 {w : World} {ad : Addr} {n c i : Nat} {ts : List (List (List Rat))} {t : List (List Rat)} (h : zN w (.slice (some ad) n c) ts) (hr : ts[i]? = some t) : ∃ Ar cr,i < n /\ w.cell? (ad.add i) = some (.slice Ar t.length cr) /\ SlT .u64 4294967296 w (.slice Ar t.length cr) t:=by
 obtain ⟨ad',Ar,cr,e,h1,h2,h3⟩:=h.at_ hr
 injection e with e
 subst e
 exact ⟨Ar,cr,h1,h2,h3⟩
theorem slT_one {k : IntKind} {B : Nat} {w : World} {v u : Value} {r : List Rat} (h : IsV w v [u]) (hs : SlF k B w u r) (hc : ∀ A n c,v = .slice A n c -> c <= maxLen) : SlT k B w v [r]:=by
 obtain ⟨A,c,e,h2,h3⟩:=h
 refine ⟨[u],rfl,⟨A,c,e,h2,hc _ _ _ e,h3⟩,fun i x y hx hy => ?_⟩
 rcases i with _ | i
 ·obtain rfl : u = x:=by simpa using hx
  obtain rfl : r = y:=by simpa using hy
  exact hs
 ·simp at hx
section
variable {P : Program} {Q : Exit -> Act -> World -> Prop} {ops : Array Oper} {L : List Oper} {Φ : List Pd} {w0 : World} {a0 : Act} {i : Nat} {o : Oper}
end
def RetRo (qs : List Rat) (w : World) (e : Ending) (w' : World) : Prop:=∃ g,e = .returned (.slice (some ⟨g,0,none⟩) qs.length qs.length) /\ zD0 w' g qs.length qs /\ w.heap.size <= g /\ Below w.heap.size w w'
theorem qE7 {x : Rat} : (zJ5 x.num 0 == 0) = decide (x = 0):=by
 by_cases h : x = 0
 ·rw [h,decide_eq_true rfl]; rfl
 ·rw [decide_eq_false h,beq_eq_false_iff_ne]
  intro e
  have hz : x.num ≠ 0:=fun k => h (Rat.num_eq_zero.1 k)
  rcases Int.lt_or_gt_of_ne hz with k | k
  ·rw [qC7 k] at e; cases e
  ·rw [qC8 k] at e; cases e
theorem qR1 {x y : Rat} : x * y = 0 ↔ x = 0 \/ y = 0:=by
 constructor
 ·intro h
  exact Rat.mul_eq_zero.1 h
 ·rintro (rfl | rfl)
  ·exact Rat.zero_mul _
  ·exact Rat.mul_zero _
theorem yE7 (a0 a1 : Value) (x y : Rat) (b : Bool) (w : World) (h0 : IsQ w a0 x) (h1 : IsQ w a1 y) (hb : b = decide (x * y = 0)) :
  Calls Tryz.prog 174 #[a0,a1] w (zD8 (.bool b) w):=by
 obtain ⟨s,hs⟩ : ∃ s,s = zJ5 x.num 0:=⟨_,rfl⟩
 obtain ⟨t,ht⟩ : ∃ t,t = zJ5 y.num 0:=⟨_,rfl⟩
 have HS:=Lib.hid hs
 have HT:=Lib.hid ht
 have HB:=Lib.hid hb
 clear hb
 by_cases hx : x = 0
 ·obtain ⟨u0,t0,rfl,s0,r0⟩:=h0
  obtain ⟨A0,c0,rfl,_⟩:=id s0
  obtain ⟨D0,e0,rfl,_⟩:=id r0
  obtain ⟨u1,t1,rfl,s1,r1⟩:=h1
  obtain ⟨A1,c1,rfl,_⟩:=id s1
  obtain ⟨D1,e1,rfl,_⟩:=id r1
  have H1 : Hid ((s == 0) = true):=by show _ = _; rw [hs,qE7,decide_eq_true hx]
  have HW : Hid (b = true):=by show _ = _; rw [HB.out]; exact decide_eq_true (qR1.2 (.inl hx))
  clear hs ht hx
  go_enter Tryz.func174,Tryz.ntmps174
  go_upto_region 1 with (fail)
  obtain ⟨wx,hwx,bb,B0,B1,hsz⟩:=zI8 w 83 83 #[.bool (ngB (x).num),.slice A0 (digs 4294967296 (x).num.natAbs).length c0,.slice D0 (digs 4294967296 (x).den).length e0] #[.bool (ngB (y).num),.slice A1 (digs 4294967296 (y).num.natAbs).length c1,.slice D1 (digs 4294967296 (y).den).length e1]
  rw [hwx]
  clear hwx
  have k0s:=s0.below bb
  have k0d:=r0.below bb
  have k0z : IsZ wx (.agg #[.bool (ngB (x).num),.slice A0 (digs 4294967296 (x).num.natAbs).length c0]) (x).num:=⟨_,rfl,k0s⟩
  have k0 : IsQ wx (.agg #[.bool (ngB (x).num),.slice A0 (digs 4294967296 (x).num.natAbs).length c0,.slice D0 (digs 4294967296 (x).den).length e0]) (x):=⟨_,_,rfl,k0s,k0d⟩
  have k1s:=s1.below bb
  have k1d:=r1.below bb
  have k1z : IsZ wx (.agg #[.bool (ngB (y).num),.slice A1 (digs 4294967296 (y).num.natAbs).length c1]) (y).num:=⟨_,rfl,k1s⟩
  have k1 : IsQ wx (.agg #[.bool (ngB (y).num),.slice A1 (digs 4294967296 (y).num.natAbs).length c1,.slice D1 (digs 4294967296 (y).den).length e1]) (y):=⟨_,_,rfl,k1s,k1d⟩
  have hsz0:=bb.size
  have sB:=bb.size
  refine zC9 9 [Pd.eq (.agg #[.bool (ngB (x).num),.slice A0 (digs 4294967296 (x).num.natAbs).length c0,.slice D0 (digs 4294967296 (x).den).length e0]),Pd.eq (.int .i64 s),Pd.eq (.bool true),Pd.eq (.bool true),Pd.any,Pd.any,Pd.any,Pd.eq (.bool true),Pd.eq (.bool true)] (by kernel_rfl) ?ob1 ?done1
  case ob1 =>
   refine zA (zC rfl (zB6 rfl) (zB8 rfl rfl) (fun w2 hb => zF8 Tryz.underlying83 rfl (by kernel_rfl) (B0.below hb)) (fun _ _ => rfl)) ?_
   refine zA (zF rfl Tryz.func133 (by kernel_rfl) (zB6 rfl) (zB7 (j:=0) (by kernel_rfl) rfl rfl) (fun w2 u0 hb h0 => by obtain rfl:=h0; exact (zT2 _ x s _ (k0.below hb) HS.out).mono fun e w3 h => zD8.pd h)) ?_
   refine zA (zG4 rfl (zB6 rfl) (zB7 (j:=1) (by kernel_rfl) rfl rfl) (zH7 _) (fun _ _ _ hx hy => ⟨.bool true,by rw [hx,hy,zP6,H1.out],rfl⟩)) ?_
   refine zA (zC2 rfl (zB6 rfl) (zB7 (j:=2) (by kernel_rfl) rfl rfl) (fun _ _ h => h)) ?_
   refine zA (zJ3 (zD9 (c:=true) (b:=false) (g:=3) rfl (by kernel_rfl) rfl rfl rfl (by exact fun _ _ h => h)) (fun _ => trivial) rfl) ?_
   refine zA (zJ3 (zD9 (c:=true) (b:=false) (g:=3) rfl (by kernel_rfl) rfl rfl rfl (by exact fun _ _ h => h)) (fun _ => trivial) rfl) ?_
   refine zA (zJ3 (zD9 (c:=true) (b:=false) (g:=3) rfl (by kernel_rfl) rfl rfl rfl (by exact fun _ _ h => h)) (fun _ => trivial) rfl) ?_
   refine zA (zO9 (b:=true) rfl (zB6 rfl) (zB7 (j:=3) (by kernel_rfl) rfl rfl) (zH7 _) (fun _ _ h => h)) ?_
   refine zA (zE8 rfl (zB6 rfl) (zB7 (j:=7) (by kernel_rfl) rfl rfl) (fun _ _ h => h)) ?_
   trivial
  case done1 =>
   refine fun w1 hb1 v0 h0 v1 h1 v2 h2 v3 h3 v4 h4 v5 h5 v6 h6 v7 h7 v8 h8 b hbf => ?_
   obtain rfl:=h0; obtain rfl:=h1; obtain rfl:=h2; obtain rfl:=h3; obtain rfl:=h7; obtain rfl:=h8
   clear h4
   clear h5
   clear h6
   simp only [Act.put,zA0,zA2,zA1] at hbf
   subst hbf
   replace B0:=B0.below hb1
   replace k0s:=k0s.below hb1
   replace k0d:=k0d.below hb1
   replace k0z:=k0z.below hb1
   replace k0:=k0.below hb1
   replace B1:=B1.below hb1
   replace k1s:=k1s.below hb1
   replace k1d:=k1d.below hb1
   replace k1z:=k1z.below hb1
   replace k1:=k1.below hb1
   replace bb:=bb.trans (hb1.mono bb.size)
   have hsz1:=bb.size
   refine zD ?_
   go_wp2
   go_ret
   exact ⟨by rw [HW.out]; rfl,bb⟩
 ·by_cases hy : y = 0
  ·obtain ⟨u0,t0,rfl,s0,r0⟩:=h0
   obtain ⟨A0,c0,rfl,_⟩:=id s0
   obtain ⟨D0,e0,rfl,_⟩:=id r0
   obtain ⟨u1,t1,rfl,s1,r1⟩:=h1
   obtain ⟨A1,c1,rfl,_⟩:=id s1
   obtain ⟨D1,e1,rfl,_⟩:=id r1
   have H1 : Hid ((s == 0) = false):=by show _ = _; rw [hs,qE7,decide_eq_false hx]
   have H2 : Hid ((t == 0) = true):=by show _ = _; rw [ht,qE7,decide_eq_true hy]
   have HW : Hid (b = true):=by show _ = _; rw [HB.out]; exact decide_eq_true (qR1.2 (.inr hy))
   clear hs ht hx hy
   go_enter Tryz.func174,Tryz.ntmps174
   go_upto_region 1 with (fail)
   obtain ⟨wx,hwx,bb,B0,B1,hsz⟩:=zI8 w 83 83 #[.bool (ngB (x).num),.slice A0 (digs 4294967296 (x).num.natAbs).length c0,.slice D0 (digs 4294967296 (x).den).length e0] #[.bool (ngB (y).num),.slice A1 (digs 4294967296 (y).num.natAbs).length c1,.slice D1 (digs 4294967296 (y).den).length e1]
   rw [hwx]
   clear hwx
   have k0s:=s0.below bb
   have k0d:=r0.below bb
   have k0z : IsZ wx (.agg #[.bool (ngB (x).num),.slice A0 (digs 4294967296 (x).num.natAbs).length c0]) (x).num:=⟨_,rfl,k0s⟩
   have k0 : IsQ wx (.agg #[.bool (ngB (x).num),.slice A0 (digs 4294967296 (x).num.natAbs).length c0,.slice D0 (digs 4294967296 (x).den).length e0]) (x):=⟨_,_,rfl,k0s,k0d⟩
   have k1s:=s1.below bb
   have k1d:=r1.below bb
   have k1z : IsZ wx (.agg #[.bool (ngB (y).num),.slice A1 (digs 4294967296 (y).num.natAbs).length c1]) (y).num:=⟨_,rfl,k1s⟩
   have k1 : IsQ wx (.agg #[.bool (ngB (y).num),.slice A1 (digs 4294967296 (y).num.natAbs).length c1,.slice D1 (digs 4294967296 (y).den).length e1]) (y):=⟨_,_,rfl,k1s,k1d⟩
   have hsz0:=bb.size
   have sB:=bb.size
   refine zC9 9 [Pd.eq (.agg #[.bool (ngB (x).num),.slice A0 (digs 4294967296 (x).num.natAbs).length c0,.slice D0 (digs 4294967296 (x).den).length e0]),Pd.eq (.int .i64 s),Pd.eq (.bool false),Pd.eq (.bool false),Pd.eq (.agg #[.bool (ngB (y).num),.slice A1 (digs 4294967296 (y).num.natAbs).length c1,.slice D1 (digs 4294967296 (y).den).length e1]),Pd.eq (.int .i64 t),Pd.eq (.bool true),Pd.eq (.bool true),Pd.eq (.bool true)] (by kernel_rfl) ?ob2 ?done2
   case ob2 =>
    refine zA (zC rfl (zB6 rfl) (zB8 rfl rfl) (fun w2 hb => zF8 Tryz.underlying83 rfl (by kernel_rfl) (B0.below hb)) (fun _ _ => rfl)) ?_
    refine zA (zF rfl Tryz.func133 (by kernel_rfl) (zB6 rfl) (zB7 (j:=0) (by kernel_rfl) rfl rfl) (fun w2 u0 hb h0 => by obtain rfl:=h0; exact (zT2 _ x s _ (k0.below hb) HS.out).mono fun e w3 h => zD8.pd h)) ?_
    refine zA (zG4 rfl (zB6 rfl) (zB7 (j:=1) (by kernel_rfl) rfl rfl) (zH7 _) (fun _ _ _ hx hy => ⟨.bool false,by rw [hx,hy,zP6,H1.out],rfl⟩)) ?_
    refine zA (zC2 rfl (zB6 rfl) (zB7 (j:=2) (by kernel_rfl) rfl rfl) (fun _ _ h => h)) ?_
    refine zA (zC rfl (zD9 (c:=false) (b:=false) (g:=3) rfl (by kernel_rfl) rfl rfl rfl (by exact fun _ _ h => h)) (zB8 rfl rfl) (fun w2 hb => zF8 Tryz.underlying83 rfl (by kernel_rfl) (B1.below hb)) (fun _ _ => rfl)) ?_
    refine zA (zF rfl Tryz.func133 (by kernel_rfl) (zD9 (c:=false) (b:=false) (g:=3) rfl (by kernel_rfl) rfl rfl rfl (by exact fun _ _ h => h)) (zB7 (j:=4) (by kernel_rfl) rfl rfl) (fun w2 u0 hb h0 => by obtain rfl:=h0; exact (zT2 _ y t _ (k1.below hb) HT.out).mono fun e w3 h => zD8.pd h)) ?_
    refine zA (zG4 rfl (zD9 (c:=false) (b:=false) (g:=3) rfl (by kernel_rfl) rfl rfl rfl (by exact fun _ _ h => h)) (zB7 (j:=5) (by kernel_rfl) rfl rfl) (zH7 _) (fun _ _ _ hx hy => ⟨.bool true,by rw [hx,hy,zP6,H2.out],rfl⟩)) ?_
    refine zA (zO9 (b:=false) rfl (zB6 rfl) (zB7 (j:=3) (by kernel_rfl) rfl rfl) (zB7 (j:=6) (by kernel_rfl) rfl rfl) (fun _ _ h => h)) ?_
    refine zA (zE8 rfl (zB6 rfl) (zB7 (j:=7) (by kernel_rfl) rfl rfl) (fun _ _ h => h)) ?_
    trivial
   case done2 =>
    refine fun w1 hb1 v0 h0 v1 h1 v2 h2 v3 h3 v4 h4 v5 h5 v6 h6 v7 h7 v8 h8 b hbf => ?_
    obtain rfl:=h0; obtain rfl:=h1; obtain rfl:=h2; obtain rfl:=h3; obtain rfl:=h4; obtain rfl:=h5; obtain rfl:=h6; obtain rfl:=h7; obtain rfl:=h8
    simp only [Act.put,zA0,zA2,zA1] at hbf
    subst hbf
    replace B0:=B0.below hb1
    replace k0s:=k0s.below hb1
    replace k0d:=k0d.below hb1
    replace k0z:=k0z.below hb1
    replace k0:=k0.below hb1
    replace B1:=B1.below hb1
    replace k1s:=k1s.below hb1
    replace k1d:=k1d.below hb1
    replace k1z:=k1z.below hb1
    replace k1:=k1.below hb1
    replace bb:=bb.trans (hb1.mono bb.size)
    have hsz1:=bb.size
    refine zD ?_
    go_wp2
    go_ret
    exact ⟨by rw [HW.out]; rfl,bb⟩
  ·obtain ⟨u0,t0,rfl,s0,r0⟩:=h0
   obtain ⟨A0,c0,rfl,_⟩:=id s0
   obtain ⟨D0,e0,rfl,_⟩:=id r0
   obtain ⟨u1,t1,rfl,s1,r1⟩:=h1
   obtain ⟨A1,c1,rfl,_⟩:=id s1
   obtain ⟨D1,e1,rfl,_⟩:=id r1
   have H1 : Hid ((s == 0) = false):=by show _ = _; rw [hs,qE7,decide_eq_false hx]
   have H2 : Hid ((t == 0) = false):=by show _ = _; rw [ht,qE7,decide_eq_false hy]
   have HW : Hid (b = false):=by show _ = _; rw [HB.out]; exact decide_eq_false (fun h => by rcases qR1.1 h with h | h; exact hx h; exact hy h)
   clear hs ht hx hy
   go_enter Tryz.func174,Tryz.ntmps174
   go_upto_region 1 with (fail)
   obtain ⟨wx,hwx,bb,B0,B1,hsz⟩:=zI8 w 83 83 #[.bool (ngB (x).num),.slice A0 (digs 4294967296 (x).num.natAbs).length c0,.slice D0 (digs 4294967296 (x).den).length e0] #[.bool (ngB (y).num),.slice A1 (digs 4294967296 (y).num.natAbs).length c1,.slice D1 (digs 4294967296 (y).den).length e1]
   rw [hwx]
   clear hwx
   have k0s:=s0.below bb
   have k0d:=r0.below bb
   have k0z : IsZ wx (.agg #[.bool (ngB (x).num),.slice A0 (digs 4294967296 (x).num.natAbs).length c0]) (x).num:=⟨_,rfl,k0s⟩
   have k0 : IsQ wx (.agg #[.bool (ngB (x).num),.slice A0 (digs 4294967296 (x).num.natAbs).length c0,.slice D0 (digs 4294967296 (x).den).length e0]) (x):=⟨_,_,rfl,k0s,k0d⟩
   have k1s:=s1.below bb
   have k1d:=r1.below bb
   have k1z : IsZ wx (.agg #[.bool (ngB (y).num),.slice A1 (digs 4294967296 (y).num.natAbs).length c1]) (y).num:=⟨_,rfl,k1s⟩
   have k1 : IsQ wx (.agg #[.bool (ngB (y).num),.slice A1 (digs 4294967296 (y).num.natAbs).length c1,.slice D1 (digs 4294967296 (y).den).length e1]) (y):=⟨_,_,rfl,k1s,k1d⟩
   have hsz0:=bb.size
   have sB:=bb.size
   refine zC9 9 [Pd.eq (.agg #[.bool (ngB (x).num),.slice A0 (digs 4294967296 (x).num.natAbs).length c0,.slice D0 (digs 4294967296 (x).den).length e0]),Pd.eq (.int .i64 s),Pd.eq (.bool false),Pd.eq (.bool false),Pd.eq (.agg #[.bool (ngB (y).num),.slice A1 (digs 4294967296 (y).num.natAbs).length c1,.slice D1 (digs 4294967296 (y).den).length e1]),Pd.eq (.int .i64 t),Pd.eq (.bool false),Pd.eq (.bool false),Pd.eq (.bool false)] (by kernel_rfl) ?ob3 ?done3
   case ob3 =>
    refine zA (zC rfl (zB6 rfl) (zB8 rfl rfl) (fun w2 hb => zF8 Tryz.underlying83 rfl (by kernel_rfl) (B0.below hb)) (fun _ _ => rfl)) ?_
    refine zA (zF rfl Tryz.func133 (by kernel_rfl) (zB6 rfl) (zB7 (j:=0) (by kernel_rfl) rfl rfl) (fun w2 u0 hb h0 => by obtain rfl:=h0; exact (zT2 _ x s _ (k0.below hb) HS.out).mono fun e w3 h => zD8.pd h)) ?_
    refine zA (zG4 rfl (zB6 rfl) (zB7 (j:=1) (by kernel_rfl) rfl rfl) (zH7 _) (fun _ _ _ hx hy => ⟨.bool false,by rw [hx,hy,zP6,H1.out],rfl⟩)) ?_
    refine zA (zC2 rfl (zB6 rfl) (zB7 (j:=2) (by kernel_rfl) rfl rfl) (fun _ _ h => h)) ?_
    refine zA (zC rfl (zD9 (c:=false) (b:=false) (g:=3) rfl (by kernel_rfl) rfl rfl rfl (by exact fun _ _ h => h)) (zB8 rfl rfl) (fun w2 hb => zF8 Tryz.underlying83 rfl (by kernel_rfl) (B1.below hb)) (fun _ _ => rfl)) ?_
    refine zA (zF rfl Tryz.func133 (by kernel_rfl) (zD9 (c:=false) (b:=false) (g:=3) rfl (by kernel_rfl) rfl rfl rfl (by exact fun _ _ h => h)) (zB7 (j:=4) (by kernel_rfl) rfl rfl) (fun w2 u0 hb h0 => by obtain rfl:=h0; exact (zT2 _ y t _ (k1.below hb) HT.out).mono fun e w3 h => zD8.pd h)) ?_
    refine zA (zG4 rfl (zD9 (c:=false) (b:=false) (g:=3) rfl (by kernel_rfl) rfl rfl rfl (by exact fun _ _ h => h)) (zB7 (j:=5) (by kernel_rfl) rfl rfl) (zH7 _) (fun _ _ _ hx hy => ⟨.bool false,by rw [hx,hy,zP6,H2.out],rfl⟩)) ?_
    refine zA (zO9 (b:=false) rfl (zB6 rfl) (zB7 (j:=3) (by kernel_rfl) rfl rfl) (zB7 (j:=6) (by kernel_rfl) rfl rfl) (fun _ _ h => h)) ?_
    refine zA (zE8 rfl (zB6 rfl) (zB7 (j:=7) (by kernel_rfl) rfl rfl) (fun _ _ h => h)) ?_
    trivial
   case done3 =>
    refine fun w1 hb1 v0 h0 v1 h1 v2 h2 v3 h3 v4 h4 v5 h5 v6 h6 v7 h7 v8 h8 b hbf => ?_
    obtain rfl:=h0; obtain rfl:=h1; obtain rfl:=h2; obtain rfl:=h3; obtain rfl:=h4; obtain rfl:=h5; obtain rfl:=h6; obtain rfl:=h7; obtain rfl:=h8
    simp only [Act.put,zA0,zA2,zA1] at hbf
    subst hbf
    replace B0:=B0.below hb1
    replace k0s:=k0s.below hb1
    replace k0d:=k0d.below hb1
    replace k0z:=k0z.below hb1
    replace k0:=k0.below hb1
    replace B1:=B1.below hb1
    replace k1s:=k1s.below hb1
    replace k1d:=k1d.below hb1
    replace k1z:=k1z.below hb1
    replace k1:=k1.below hb1
    replace bb:=bb.trans (hb1.mono bb.size)
    have hsz1:=bb.size
    refine zD ?_
    go_wp2
    go_ret
    exact ⟨by rw [HW.out]; rfl,bb⟩
theorem yY3 (a0 a1 : Value) (p : List Rat) (K : Rat) (m n : Nat) (w : World) (h0 : SlF .u64 4294967296 w a0 p) (h1 : IsQ w a1 K) (hl : p.length <= 1000 /\ (∀ x ∈ p,zC7 x m) /\ zC7 K n /\ m <= 4900 /\ n <= 4900) :
  Calls Tryz.prog 129 #[a0,a1] w (RetRo (zG9 p K) w):=by
 obtain ⟨u1,t1,rfl,s1,r1⟩:=h1
 obtain ⟨A1,c1,rfl,_⟩:=id s1
 obtain ⟨D1,e1,rfl,_⟩:=id r1
 have sl0:=h0
 obtain ⟨A0,c0,rfl,hc0,hm0⟩:=h0.shape
 unfold maxLen at hm0
 have HL:=Lib.hid hl
 have lK : zC7 K n:=hl.2.2.1
 have hm9 : m <= 4900:=hl.2.2.2.1
 have hn9 : n <= 4900:=hl.2.2.2.2
 have hl8 : p.length <= 1000:=hl.1
 have HRL : Hid ((zG9 p K).length = p.length):=qJ1 p K
 clear hl
 go_enter Tryz.func129,Tryz.ntmps129
 go_upto_region 1 with (fail)
 obtain ⟨wx,hwx,bb,B1,hsz⟩:=zN8 w 83 #[.bool (ngB (K).num),.slice A1 (digs 4294967296 (K).num.natAbs).length c1,.slice D1 (digs 4294967296 (K).den).length e1]
 rw [hwx]
 clear hwx
 have k1s:=s1.below bb
 have k1d:=r1.below bb
 have k1z : IsZ wx (.agg #[.bool (ngB (K).num),.slice A1 (digs 4294967296 (K).num.natAbs).length c1]) (K).num:=⟨_,rfl,k1s⟩
 have k1 : IsQ wx (.agg #[.bool (ngB (K).num),.slice A1 (digs 4294967296 (K).num.natAbs).length c1,.slice D1 (digs 4294967296 (K).den).length e1]) (K):=⟨_,_,rfl,k1s,k1d⟩
 have hsz0:=bb.size
 go_wp2_with (at_make; refine yE1 rfl _ _ rfl Tryz.underlying44 zU8 p.length rfl rfl (by omega) ?_; intro wm RN hbm)
 have hwg : w.heap.size <= wx.heap.size:=bb.size
 have hlb3:=B1.lt
 replace B1:=B1.below hbm
 replace k1s:=k1s.below hbm
 replace k1d:=k1d.below hbm
 replace k1z:=k1z.below hbm
 replace k1:=k1.below hbm
 replace bb:=bb.trans (hbm.mono bb.size)
 have hsz1:=bb.size
 obtain ⟨g,hg⟩ : ∃ g,g = wx.heap.size:=⟨_,rfl⟩
 rw [<- hg] at RN |-
 have hg_ : wx.heap.size <= g:=by omega
 clear hg
 have hg:=hg_
 clear hg_
 have hgw : w.heap.size <= g:=by omega
 have RN0 : zD0 wm g p.length ((zG9 p K).take 0):=RN
 clear RN
 go_wp2
 go_loopw [13] (fun v13 wr => ∃ k : Nat,k <= p.length /\ zD0 wr g p.length ((zG9 p K).take k) /\ Blk wr (w.heap.size) 83 #[.bool (ngB (K).num),.slice A1 (digs 4294967296 (K).num.natAbs).length c1,.slice D1 (digs 4294967296 (K).den).length e1] /\ Below w.heap.size w wr /\ v13 = .int .i64 (k : Int)) (fun v13 _ => p.length - (intOf v13).toNat)
 case atStart => exact ⟨0,by omega,RN0,B1,bb,rfl⟩
 case round =>
  obtain ⟨k,hk,hR,hB3,hbw,rfl⟩:=hrel
  clear RN0 bb B1 k1s k1d k1z k1
  have RN:=hR
  have bb:=hbw
  clear hR hbw
  have B1:=hB3
  have k1s:=s1.below bb
  have k1d:=r1.below bb
  have k1z : IsZ wr (.agg #[.bool (ngB (K).num),.slice A1 (digs 4294967296 (K).num.natAbs).length c1]) (K).num:=⟨_,rfl,k1s⟩
  have k1 : IsQ wr (.agg #[.bool (ngB (K).num),.slice A1 (digs 4294967296 (K).num.natAbs).length c1,.slice D1 (digs 4294967296 (K).den).length e1]) (K):=⟨_,_,rfl,k1s,k1d⟩
  have hlc3:=B1.lt
  clear hB3
  have hszr:=bb.size
  have hgl:=RN.lt
  by_cases hlt : k < p.length
  ·obtain ⟨x,hq0_⟩ : ∃ x,p[k]? = some x:=⟨_,zA3 hlt⟩
   obtain ⟨g0_,o0_,ue0,te0,hA0_,_,e00,e01,e02,es0,ed0⟩:=(sl0.below bb).at_ hq0_
   subst hA0_
   have HQ0:=Lib.hid hq0_
   clear hq0_
   obtain ⟨Ae0,ce0,rfl,_⟩:=id es0
   obtain ⟨De0,ee0,rfl,_⟩:=id ed0
   have ke0 : IsQ wr (.agg #[.bool (ngB x.num),.slice Ae0 (digs 4294967296 x.num.natAbs).length ce0,.slice De0 (digs 4294967296 x.den).length ee0]) x:=⟨_,_,rfl,es0,ed0⟩
   have lx : zC7 x m:=HL.out.2.1 x (zA5 HQ0.out)
   have HAT : Hid ((zG9 p K)[k]? = some (x * K)):=by show _ = _; rw [zG9,zB1,HQ0.out]; rfl
   have HTK : Hid ((zG9 p K).take (k + 1) = (zG9 p K).take k ++ [(x * K)]):=qA3 HAT.out
   have HLK : Hid (k = ((zG9 p K).take k).length):=by show _ = _; rw [List.length_take,HRL.out]; omega
   have sB:=bb.size
   go_upto_region 4 with (fail)
   have lt2_3:=Blk.lt B1
   refine zC9 5 [Pd.eq (.int .i64 (k : Int)),Pd.eq (.pointer (some ⟨g0_,o0_ + k * 3,none⟩)),Pd.eq (.agg #[.bool (ngB x.num),.slice Ae0 (digs 4294967296 x.num.natAbs).length ce0,.slice De0 (digs 4294967296 x.den).length ee0]),pn 83 #[.bool false,.slice none 0 0,.slice none 0 0] wr.heap.size,Pd.eq (.int .i64 (k : Int))] (by kernel_rfl) ?ob4 ?done4
   case ob4 =>
    refine zA (zC2 rfl (zB6 rfl) (zB8 rfl rfl) (fun _ _ h => h)) ?_
    refine zA (zK5 rfl (zB6 rfl) (zB8 rfl rfl) (zB8 rfl rfl) (fun _ _ _ hx hy => ⟨_,by rw [hx,hy]; exact zK Tryz.underlying44 (by kernel_rfl) hlt _,rfl⟩)) ?_
    refine zA (zC rfl (zB6 rfl) (zB7 (j:=1) (by kernel_rfl) rfl rfl) (fun w2 hb => zT0 Tryz.underlying83 rfl (by kernel_rfl) ((hb.cell (World.block_lt_of_cell? wr _ e00)).trans e00) ((hb.cell (World.block_lt_of_cell? wr _ e01)).trans e01) ((hb.cell (World.block_lt_of_cell? wr _ e02)).trans e02)) (fun _ _ => rfl)) ?_
    refine zA (zN6 (z:=.agg #[.bool false,.slice none 0 0,.slice none 0 0]) rfl rfl (fun _ => by kernel_rfl) (fun _ _ hB h => ⟨_,rfl,hB,h⟩)) ?_
    refine zA (zE8 rfl (zB6 rfl) (zB7 (j:=0) (by kernel_rfl) rfl rfl) (fun _ _ h => h)) ?_
    trivial
   case done4 =>
    refine fun w3 hb3 v0 h0 v1 h1 v2 h2 v3 h3 d3 v4 h4 b hbf => ?_
    obtain rfl:=h0; obtain rfl:=h1; obtain rfl:=h2; obtain rfl:=h4
    obtain ⟨g4_3,rfl,hg3,B3⟩:=h3
    simp only [Act.put,zA0,zA2,zA1] at hbf
    subst hbf
    replace B1:=B1.below hb3
    replace k1s:=k1s.below hb3
    replace k1d:=k1d.below hb3
    replace k1z:=k1z.below hb3
    replace k1:=k1.below hb3
    replace RN:=RN.below hb3
    replace es0:=es0.below hb3
    replace ed0:=ed0.below hb3
    replace bb:=bb.trans (hb3.mono bb.size)
    have hsz3:=bb.size
    have BA7:=B3
    have q2:=es0
    have d2:=ed0
    refine zG8 (i:=5) rfl rfl rfl rfl rfl rfl (cells:=[.bool (ngB (x).num),.slice Ae0 (digs 4294967296 (x).num.natAbs).length ce0,.slice De0 (digs 4294967296 (x).den).length ee0]) rfl BA7 rfl (by kernel_rfl) (zI3 rfl rfl rfl) fun w4 hg4 BN4 => ?_
    replace q2:=off q2 BA7 zE hg4
    replace d2:=off d2 BA7 zE hg4
    replace RN:=zD0.offb RN BA7 zE hg4 (by omega)
    replace k1s:=off k1s BA7 zE hg4
    replace k1d:=off k1d BA7 zE hg4
    replace k1z : IsZ w4 (.agg #[.bool (ngB (K).num),.slice A1 (digs 4294967296 (K).num.natAbs).length c1]) ((K).num):=⟨_,rfl,k1s⟩
    replace k1 : IsQ w4 (.agg #[.bool (ngB (K).num),.slice A1 (digs 4294967296 (K).num.natAbs).length c1,.slice D1 (digs 4294967296 (K).den).length e1]) (K):=⟨_,_,rfl,k1s,k1d⟩
    replace B1:=B1.grown hg4 (by omega)
    replace bb:=bb.trans ((Below.refl _ _).grown hg4 bb.size (fun g hg => by injection hg with hg; omega))
    have hsz4:=bb.size
    have Be0 : Blk w4 (g4_3) _ _:=BN4
    have ke0s:=q2
    have ke0d:=d2
    have ke0z : IsZ w4 (.agg #[.bool (ngB (x).num),.slice Ae0 (digs 4294967296 (x).num.natAbs).length ce0]) ((x).num):=⟨_,rfl,ke0s⟩
    have ke0 : IsQ w4 (.agg #[.bool (ngB (x).num),.slice Ae0 (digs 4294967296 (x).num.natAbs).length ce0,.slice De0 (digs 4294967296 (x).den).length ee0]) (x):=⟨_,_,rfl,ke0s,ke0d⟩
    refine zD ?_
    have hle:=Be0.lt
    have hneE : g ≠ g4_3:=by omega
    have sB:=bb.size
    go_upto_region 5 with (fail)
    refine zC9 6 [Pd.eq (.slice (some ⟨g,0,none⟩) p.length p.length),Pd.eq (.int .i64 (k : Int)),Pd.eq (.agg #[.bool (ngB (x).num),.slice Ae0 (digs 4294967296 (x).num.natAbs).length ce0,.slice De0 (digs 4294967296 (x).den).length ee0]),Pd.eq (.agg #[.bool (ngB (K).num),.slice A1 (digs 4294967296 (K).num.natAbs).length c1,.slice D1 (digs 4294967296 (K).den).length e1]),pq ((x * K)) w4.heap.size,Pd.eq (.pointer (some ⟨g,0 + k * 3,none⟩))] (by kernel_rfl) ?ob5 ?done5
    case ob5 =>
     refine zA (zC2 rfl (zB6 rfl) (zB8 rfl rfl) (fun _ _ h => h)) ?_
     refine zA (zC2 rfl (zB6 rfl) (zB8 rfl rfl) (fun _ _ h => h)) ?_
     refine zA (zC rfl (zB6 rfl) (zB8 rfl rfl) (fun w2 hb => zF8 Tryz.underlying83 rfl (by kernel_rfl) (Be0.below hb)) (fun _ _ => rfl)) ?_
     refine zA (zC rfl (zB6 rfl) (zB8 rfl rfl) (fun w2 hb => zF8 Tryz.underlying83 rfl (by kernel_rfl) (B1.below hb)) (fun _ _ => rfl)) ?_
     refine zA (zD4 rfl Tryz.func127 (by kernel_rfl) (zB6 rfl) (zB7 (j:=2) (by kernel_rfl) rfl rfl) (zB7 (j:=3) (by kernel_rfl) rfl rfl) (fun w2 u0 u1 hb h0 h1 => by obtain rfl:=h0; obtain rfl:=h1; exact (qQ8 _ x _ K _ (ke0.below hb) (k1.below hb) (lx.mono (by omega)) (lK.mono (by omega))).mono fun e w3 h => RetQ.pd h hb.size)) ?_
     refine zA (zK5 rfl (zB6 rfl) (zB7 (j:=0) (by kernel_rfl) rfl rfl) (zB7 (j:=1) (by kernel_rfl) rfl rfl) (fun _ _ _ hx hy => ⟨_,by rw [hx,hy]; exact zK (k:=k) Tryz.underlying44 (by kernel_rfl) hlt _,rfl⟩)) ?_
     trivial
    case done5 =>
     refine fun w5 hb5 v0 h0 v1 h1 v2 h2 v3 h3 v4 h4 v5 h5 b hbf => ?_
     obtain rfl:=h0; obtain rfl:=h1; obtain rfl:=h2; obtain rfl:=h3; obtain rfl:=h5
     obtain ⟨q4,f4⟩:=h4
     simp only [Act.put,zA0,zA2,zA1] at hbf
     subst hbf
     replace B1:=B1.below hb5
     replace k1s:=k1s.below hb5
     replace k1d:=k1d.below hb5
     replace k1z:=k1z.below hb5
     replace k1:=k1.below hb5
     replace Be0:=Be0.below hb5
     replace ke0s:=ke0s.below hb5
     replace ke0d:=ke0d.below hb5
     replace ke0z:=ke0z.below hb5
     replace ke0:=ke0.below hb5
     replace RN:=RN.below hb5
     replace bb:=bb.trans (hb5.mono bb.size)
     have hsz5:=bb.size
     have s_4:=sB
     obtain ⟨u4,t4,rfl,q4,d4⟩:=q4
     obtain ⟨A9,c9,rfl,_⟩:=id q4
     obtain ⟨D9,e9,rfl,_⟩:=id d4
     refine yE4 (j:=6) rfl rfl rfl rfl (g:=g) (i:=k) (q:=(x * K)) rfl rfl (by kernel_rfl) RN hlt q4 d4 fun w6 hg6 hP6 => ?_
     replace k1s:=RN.keep hg6 k1s
     replace k1d:=RN.keep hg6 k1d
     replace k1z : IsZ w6 (.agg #[.bool (ngB (K).num),.slice A1 (digs 4294967296 (K).num.natAbs).length c1]) ((K).num):=⟨_,rfl,k1s⟩
     replace k1 : IsQ w6 (.agg #[.bool (ngB (K).num),.slice A1 (digs 4294967296 (K).num.natAbs).length c1,.slice D1 (digs 4294967296 (K).den).length e1]) (K):=⟨_,_,rfl,k1s,k1d⟩
     replace B1:=B1.grown hg6 (by omega)
     replace ke0s:=RN.keep hg6 ke0s
     replace ke0d:=RN.keep hg6 ke0d
     replace ke0z : IsZ w6 (.agg #[.bool (ngB (x).num),.slice Ae0 (digs 4294967296 (x).num.natAbs).length ce0]) ((x).num):=⟨_,rfl,ke0s⟩
     replace ke0 : IsQ w6 (.agg #[.bool (ngB (x).num),.slice Ae0 (digs 4294967296 (x).num.natAbs).length ce0,.slice De0 (digs 4294967296 (x).den).length ee0]) (x):=⟨_,_,rfl,ke0s,ke0d⟩
     replace Be0:=Be0.grown hg6 (by omega)
     replace bb:=bb.trans ((Below.refl _ _).grown hg6 bb.size (fun g hg => by injection hg with hg; omega))
     have hsz6:=bb.size
     replace RN:=hP6.1 HLK.out
     clear hP6
     refine zD ?_
     rw [<- HTK.out] at RN
     have hsk : p.length - (k + 1) < p.length - k:=by omega
     go_wp2
     go_roundw
     case rel => exact ⟨k + 1,by omega,RN,B1,bb,by go_num⟩
     case measure => simp [intOf]; omega
  ·rw [zA7 (by rw [HRL.out]; omega)] at RN
   have HRN : Hid (zD0 wr g (zG9 p K).length (zG9 p K)):=by
    show zD0 _ _ _ _
    rw [HRL.out]; exact RN
   clear RN
   go_wp2
   go_ret
   exact ⟨g,by rw [HRL.out]; rfl,HRN.out,hgw,bb⟩
theorem yY4 (a0 : Value) (x : Rat) (w : World) (h0 : IsQ w a0 x) (hl : zC7 x 100000) :
  Calls Tryz.prog 179 #[a0] w (RetQ x w):=by
 obtain ⟨u0,t0,rfl,s0,r0⟩:=h0
 obtain ⟨A0,c0,rfl,_⟩:=id s0
 obtain ⟨D0,e0,rfl,_⟩:=id r0
 go_enter Tryz.func179,Tryz.ntmps179
 go_upto_region 1 with (fail)
 obtain ⟨wx,hwx,bb,B0,BR0,hsz⟩:=zI8 w 83 83 #[.bool (ngB (x).num),.slice A0 (digs 4294967296 (x).num.natAbs).length c0,.slice D0 (digs 4294967296 (x).den).length e0] #[.bool false,.slice none 0 0,.slice none 0 0]
 rw [hwx]
 clear hwx
 have k0s:=s0.below bb
 have k0d:=r0.below bb
 have k0z : IsZ wx (.agg #[.bool (ngB (x).num),.slice A0 (digs 4294967296 (x).num.natAbs).length c0]) (x).num:=⟨_,rfl,k0s⟩
 have k0 : IsQ wx (.agg #[.bool (ngB (x).num),.slice A0 (digs 4294967296 (x).num.natAbs).length c0,.slice D0 (digs 4294967296 (x).den).length e0]) (x):=⟨_,_,rfl,k0s,k0d⟩
 have hsz0:=bb.size
 have sB:=bb.size
 refine flow 13 [Pd.eq (.pointer (some ⟨w.heap.size,0,none⟩)),Pd.eq (.pointer (some ⟨w.heap.size,0,none⟩)),Pd.eq (.bool (ngB (x).num)),Pd.eq (.pointer (some ⟨w.heap.size,0,none⟩)),Pd.eq (.pointer (some ⟨w.heap.size,1,none⟩)),Pd.eq (.slice A0 (digs 4294967296 (x).num.natAbs).length c0),ps .u64 (digs 4294967296 (x).num.natAbs) wx.heap.size,Pd.eq (.pointer (some ⟨w.heap.size,2,none⟩)),Pd.eq (.slice D0 (digs 4294967296 (x).den).length e0),ps .u64 (digs 4294967296 (x).den) wx.heap.size,Pd.eq (.bool (ngB (x).num)),ps .u64 (digs 4294967296 (x).num.natAbs) wx.heap.size,ps .u64 (digs 4294967296 (x).den) wx.heap.size] (by kernel_rfl) (by kernel_rfl) ?ob1 ?done1
 case ob1 =>
  refine zA (zC3 rfl (zB6 rfl) (zB8 rfl rfl) (fun _ => by kernel_rfl) (fun _ => rfl)) ?_
  refine zA (zC3 rfl (zB6 rfl) (zB7 (j:=0) (by kernel_rfl) rfl rfl) (fun _ => by kernel_rfl) (fun _ => rfl)) ?_
  refine zA (zC rfl (zB6 rfl) (zB7 (j:=1) (by kernel_rfl) rfl rfl) (fun w2 hb => zC5 Tryz.underlying4 rfl ((B0.drew.below hb).cell 0)) (fun _ _ => rfl)) ?_
  refine zA (zC3 rfl (zB6 rfl) (zB8 rfl rfl) (fun _ => by kernel_rfl) (fun _ => rfl)) ?_
  refine zA (zC3 rfl (zB6 rfl) (zB7 (j:=3) (by kernel_rfl) rfl rfl) (fun _ => by kernel_rfl) (fun _ => rfl)) ?_
  refine zA (zC rfl (zB6 rfl) (zB7 (j:=4) (by kernel_rfl) rfl rfl) (fun w2 hb => zC5 Tryz.underlying50 rfl ((B0.drew.below hb).cell 1)) (fun _ _ => rfl)) ?_
  refine zA (zF rfl Tryz.func106 (by kernel_rfl) (zB6 rfl) (zB7 (j:=5) (by kernel_rfl) rfl rfl) (fun w2 u0 hb h0 => by obtain rfl:=h0; exact (zU _ _ _ (k0s.drew.below hb) (zB4 hl.1 (by decide))).mono fun e w3 h => zD1.pd h hb.size)) ?_
  refine zA (zC3 rfl (zB6 rfl) (zB8 rfl rfl) (fun _ => by kernel_rfl) (fun _ => rfl)) ?_
  refine zA (zC rfl (zB6 rfl) (zB7 (j:=7) (by kernel_rfl) rfl rfl) (fun w2 hb => zC5 Tryz.underlying50 rfl ((B0.drew.below hb).cell 2)) (fun _ _ => rfl)) ?_
  refine zA (zF rfl Tryz.func106 (by kernel_rfl) (zB6 rfl) (zB7 (j:=8) (by kernel_rfl) rfl rfl) (fun w2 u0 hb h0 => by obtain rfl:=h0; exact (zU _ _ _ (k0d.drew.below hb) (zB4 hl.2 (by decide))).mono fun e w3 h => zD1.pd h hb.size)) ?_
  refine zA (zE8 rfl (zB6 rfl) (zB7 (j:=2) (by kernel_rfl) rfl rfl) (fun _ _ h => h)) ?_
  refine zA (zE8 rfl (zB6 rfl) (zB7 (j:=6) (by kernel_rfl) rfl rfl) (fun _ _ h => h)) ?_
  refine zA (zE8 rfl (zB6 rfl) (zB7 (j:=9) (by kernel_rfl) rfl rfl) (fun _ _ h => h)) ?_
  trivial
 case done1 =>
  refine fun w1 hb1 v0 h0 v1 h1 v2 h2 v3 h3 v4 h4 v5 h5 v6 h6 v7 h7 v8 h8 v9 h9 v10 h10 v11 h11 v12 h12 b hbf => ?_
  obtain rfl:=h0; obtain rfl:=h1; obtain rfl:=h2; obtain rfl:=h3; obtain rfl:=h4; obtain rfl:=h5; obtain rfl:=h7; obtain rfl:=h8; obtain rfl:=h10
  obtain ⟨q6,f6⟩:=h6
  obtain ⟨q9,f9⟩:=h9
  obtain ⟨q11,f11⟩:=h11
  obtain ⟨q12,f12⟩:=h12
  simp only [Act.put,zA0,zA2,zA1] at hbf
  subst hbf
  replace B0:=B0.below hb1
  replace k0s:=k0s.below hb1
  replace k0d:=k0d.below hb1
  replace k0z:=k0z.below hb1
  replace k0:=k0.below hb1
  replace BR0:=BR0.below hb1
  replace bb:=bb.trans (hb1.mono bb.size)
  have hsz1:=bb.size
  have s_6:=sB
  have s_9:=sB
  have s_11:=sB
  have s_12:=sB
  refine zI2 (by kernel_rfl) ?_
  obtain ⟨A4,c4,rfl,_⟩:=id q11
  have n4:=q11
  have n4f:=f11
  have n4z_:=s_11
  obtain ⟨A5,c5,rfl,_⟩:=id q12
  have n5:=q12
  have n5f:=f12
  have n5z_:=s_12
  have sB:=bb.size
  go_upto_region 2 with (fail)
  refine zC9 5 [Pd.eq (.bool (ngB (x).num)),Pd.eq (.slice A4 (digs 4294967296 (x).num.natAbs).length c4),Pd.eq (.agg #[.bool (ngB (x).num),.slice A4 (digs 4294967296 (x).num.natAbs).length c4]),Pd.eq (.slice A5 (digs 4294967296 (x).den).length c5),Pd.eq (.agg #[.bool (ngB (x).num),.slice A4 (digs 4294967296 (x).num.natAbs).length c4,.slice A5 (digs 4294967296 (x).den).length c5])] (by kernel_rfl) ?ob2 ?done2
  case ob2 =>
   refine zA (zC2 rfl (zB6 rfl) (zB8 rfl rfl) (fun _ _ h => h)) ?_
   refine zA (zC2 rfl (zB6 rfl) (zB8 rfl rfl) (fun _ _ h => h)) ?_
   refine zA (zL3 rfl (zB6 rfl) (zB7 (j:=0) (by kernel_rfl) rfl rfl) (zB7 (j:=1) (by kernel_rfl) rfl rfl) (fun w2 u v hb hu hv => by obtain rfl:=hu; obtain rfl:=hv; exact ⟨.agg #[.bool (ngB (x).num),.slice A4 (digs 4294967296 (x).num.natAbs).length c4],by kernel_rfl,rfl⟩)) ?_
   refine zA (zC2 rfl (zB6 rfl) (zB8 rfl rfl) (fun _ _ h => h)) ?_
   refine zA (zL3 rfl (zB6 rfl) (zB7 (j:=2) (by kernel_rfl) rfl rfl) (zB7 (j:=3) (by kernel_rfl) rfl rfl) (fun w2 u v hb hu hv => by obtain rfl:=hu; obtain rfl:=hv; exact ⟨.agg #[.bool (ngB (x).num),.slice A4 (digs 4294967296 (x).num.natAbs).length c4,.slice A5 (digs 4294967296 (x).den).length c5],by kernel_rfl,rfl⟩)) ?_
   trivial
  case done2 =>
   refine fun w2 hb2 v0 h0 v1 h1 v2 h2 v3 h3 v4 h4 b hbf => ?_
   obtain rfl:=h0; obtain rfl:=h1; obtain rfl:=h2; obtain rfl:=h3; obtain rfl:=h4
   simp only [Act.put,zA0,zA2,zA1] at hbf
   subst hbf
   replace B0:=B0.below hb2
   replace k0s:=k0s.below hb2
   replace k0d:=k0d.below hb2
   replace k0z:=k0z.below hb2
   replace k0:=k0.below hb2
   replace BR0:=BR0.below hb2
   replace n4:=n4.below hb2
   replace n5:=n5.below hb2
   replace bb:=bb.trans (hb2.mono bb.size)
   have hsz2:=bb.size
   refine zG8 (i:=5) rfl rfl rfl rfl rfl rfl (cells:=[.bool (ngB (x).num),.slice A4 (digs 4294967296 (x).num.natAbs).length c4,.slice A5 (digs 4294967296 (x).den).length c5]) rfl BR0 rfl (by kernel_rfl) (zI3 rfl rfl rfl) fun w9 hg9 B9 => ?_
   have k9:=off n4 BR0 zE hg9
   have d9:=off n5 BR0 zE hg9
   have bb9:=bb.trans ((Below.refl _ _).grown hg9 bb.size (fun g hg => by injection hg with hg; omega))
   obtain ⟨C0,C1,C2,_,_,_⟩:=three B9
   refine zD ?_
   go_wp2
   exact bodyPost_ret (v:=.agg #[.bool (ngB (x).num),.slice A4 (digs 4294967296 (x).num.natAbs).length c4,.slice A5 (digs 4294967296 (x).den).length c5]) (by simp [results,Tryz.results179,go_sem,C0,C1,C2]) rfl ⟨_,rfl,zU7 k9 d9 rfl rfl rfl,zL2 (n4f.mono n4z_) (n5f.mono n5z_),bb9⟩
theorem yY5 (a0 a1 a2 : Value) (p : List Rat) (K : Rat) (q : List Rat) (m l n : Nat) (w : World) (h0 : SlF .u64 4294967296 w a0 p) (h1 : IsQ w a1 K) (h2 : SlF .u64 4294967296 w a2 q) (he : p.length = q.length) (hl : p.length <= 1000 /\ (∀ x ∈ p,zC7 x m) /\ zC7 K l /\ (∀ x ∈ q,zC7 x n) /\ m <= 4900 /\ l + n <= 4900) :
    Calls Tryz.prog 153 #[a0,a1,a2] w (RetRN (zI4 p K q) w):=by
  obtain ⟨u1,t1,rfl,s1,r1⟩:=h1
  obtain ⟨A1,c1,rfl,_⟩:=id s1
  obtain ⟨D1,e1,rfl,_⟩:=id r1
  have sl0:=h0
  obtain ⟨A0,c0,rfl,hc0,hm0⟩:=h0.shape
  unfold maxLen at hm0
  have sl2:=h2
  obtain ⟨A2,c2,rfl,hc2,hm2⟩:=h2.shape
  unfold maxLen at hm2
  have HNE : Hid ((((p.length : Nat) : Int) != ((q.length : Nat) : Int)) = false):=by show _ = _; rw [bne_eq_false_iff_eq]; omega
  have HE:=Lib.hid he
  have HL:=Lib.hid hl
  have lK : zC7 K l:=hl.2.2.1
  have hm9 : m <= 4900:=hl.2.2.2.2.1
  have hn9 : l + n <= 4900:=hl.2.2.2.2.2
  have hl8 : p.length <= 1000:=hl.1
  have HRL : Hid ((zI4 p K q).length = p.length):=qP6 he
  clear hl he
  go_enter Tryz.func153,Tryz.ntmps153
  go_upto_region 1 with (fail)
  obtain ⟨wx,hwx,bb,B1,hsz⟩:=zN8 w 83 #[.bool (ngB (K).num),.slice A1 (digs 4294967296 (K).num.natAbs).length c1,.slice D1 (digs 4294967296 (K).den).length e1]
  rw [hwx]
  clear hwx
  have k1s:=s1.below bb
  have k1d:=r1.below bb
  have k1z : IsZ wx (.agg #[.bool (ngB (K).num),.slice A1 (digs 4294967296 (K).num.natAbs).length c1]) (K).num:=⟨_,rfl,k1s⟩
  have k1 : IsQ wx (.agg #[.bool (ngB (K).num),.slice A1 (digs 4294967296 (K).num.natAbs).length c1,.slice D1 (digs 4294967296 (K).den).length e1]) (K):=⟨_,_,rfl,k1s,k1d⟩
  have hsz0:=bb.size
  have sB:=bb.size
  refine zC9 5 [Pd.eq (.slice A0 p.length c0),Pd.eq (.int .i64 ((p.length : Nat) : Int)),Pd.eq (.slice A2 q.length c2),Pd.eq (.int .i64 ((q.length : Nat) : Int)),Pd.eq (.bool false)] (by kernel_rfl) ?ob4 ?done4
  case ob4 =>
    refine zA (zC2 rfl (zB6 rfl) (zB8 rfl rfl) (fun _ _ h => h)) ?_
    refine zA (zM0 rfl (zB6 rfl) (zB7 (j:=0) (by kernel_rfl) rfl rfl) (fun _ _ hx => ⟨_,by rw [hx]; exact zM1 Tryz.underlying44 _ _ _ _,rfl⟩)) ?_
    refine zA (zC2 rfl (zB6 rfl) (zB8 rfl rfl) (fun _ _ h => h)) ?_
    refine zA (zM0 rfl (zB6 rfl) (zB7 (j:=2) (by kernel_rfl) rfl rfl) (fun _ _ hx => ⟨_,by rw [hx]; exact zM1 Tryz.underlying44 _ _ _ _,rfl⟩)) ?_
    refine zA (zG4 rfl (zB6 rfl) (zB7 (j:=1) (by kernel_rfl) rfl rfl) (zB7 (j:=3) (by kernel_rfl) rfl rfl) (fun _ _ _ hx hy => ⟨.bool false,by rw [hx,hy,qC6,HNE.out],rfl⟩)) ?_
    trivial
  case done4 =>
    refine fun w1 hb1 v0 h0 v1 h1 v2 h2 v3 h3 v4 h4 b hbf => ?_
    obtain rfl:=h0; obtain rfl:=h1; obtain rfl:=h2; obtain rfl:=h3; obtain rfl:=h4
    simp only [Act.put,zA0,zA2,zA1] at hbf
    subst hbf
    replace B1:=B1.below hb1
    replace k1s:=k1s.below hb1
    replace k1d:=k1d.below hb1
    replace k1z:=k1z.below hb1
    replace k1:=k1.below hb1
    replace bb:=bb.trans (hb1.mono bb.size)
    have hsz1:=bb.size
    refine zD ?_
    go_wp2_with (at_make; refine yE1 rfl _ _ rfl Tryz.underlying44 zU8 p.length rfl rfl (by omega) ?_; intro wm RN hbm)
    have hwg : w.heap.size <= w1.heap.size:=bb.size
    have hlb4:=B1.lt
    replace B1:=B1.below hbm
    replace k1s:=k1s.below hbm
    replace k1d:=k1d.below hbm
    replace k1z:=k1z.below hbm
    replace k1:=k1.below hbm
    replace bb:=bb.trans (hbm.mono bb.size)
    have hsz2:=bb.size
    obtain ⟨g,hg⟩ : ∃ g,g = w1.heap.size:=⟨_,rfl⟩
    rw [<- hg] at RN |-
    have hg_ : w1.heap.size <= g:=by omega
    clear hg
    have hg:=hg_
    clear hg_
    have hgw : w.heap.size <= g:=by omega
    have RN0 : zD0 wm g p.length ((zI4 p K q).take 0):=RN
    clear RN
    go_wp2
    go_loopw [21] (fun v21 wr => ∃ k : Nat,k <= p.length /\ zD0 wr g p.length ((zI4 p K q).take k) /\ Blk wr (w.heap.size) 83 #[.bool (ngB (K).num),.slice A1 (digs 4294967296 (K).num.natAbs).length c1,.slice D1 (digs 4294967296 (K).den).length e1] /\ Below w.heap.size w wr /\ v21 = .int .i64 (k : Int)) (fun v21 _ => p.length - (intOf v21).toNat)
    case atStart => exact ⟨0,by omega,RN0,B1,bb,rfl⟩
    case round =>
      obtain ⟨k,hk,hR,hB4,hbw,rfl⟩:=hrel
      clear RN0 bb B1 k1s k1d k1z k1
      have RN:=hR
      have bb:=hbw
      clear hR hbw
      have B1:=hB4
      have k1s:=s1.below bb
      have k1d:=r1.below bb
      have k1z : IsZ wr (.agg #[.bool (ngB (K).num),.slice A1 (digs 4294967296 (K).num.natAbs).length c1]) (K).num:=⟨_,rfl,k1s⟩
      have k1 : IsQ wr (.agg #[.bool (ngB (K).num),.slice A1 (digs 4294967296 (K).num.natAbs).length c1,.slice D1 (digs 4294967296 (K).den).length e1]) (K):=⟨_,_,rfl,k1s,k1d⟩
      have hlc4:=B1.lt
      clear hB4
      have hszr:=bb.size
      have hgl:=RN.lt
      by_cases hlt : k < p.length
      · obtain ⟨x, hq0_⟩ : ∃ x, p[k]? = some x := ⟨_, zA3 hlt⟩
        obtain ⟨g0_,o0_,ue0,te0,hA0_,_,e00,e01,e02,es0,ed0⟩:=(sl0.below bb).at_ hq0_
        subst hA0_
        have HQ0:=Lib.hid hq0_
        clear hq0_
        obtain ⟨Ae0,ce0,rfl,_⟩:=id es0
        obtain ⟨De0,ee0,rfl,_⟩:=id ed0
        have ke0 : IsQ wr (.agg #[.bool (ngB x.num),.slice Ae0 (digs 4294967296 x.num.natAbs).length ce0,.slice De0 (digs 4294967296 x.den).length ee0]) x:=⟨_,_,rfl,es0,ed0⟩
        have hlt2 : k < q.length:=by have:=HE.out; omega
        obtain ⟨y,hy⟩ : ∃ y,q[k]? = some y:=⟨_,zA3 hlt2⟩
        have HY:=Lib.hid hy
        have lx : zC7 x m:=HL.out.2.1 x (zA5 HQ0.out)
        have ly : zC7 y n:=HL.out.2.2.2.1 y (zA5 hy)
        have lky : zC7 (K * y) (l + n):=qZ6 lK ly
        have HAT : Hid ((zI4 p K q)[k]? = some (x - K * y)):=zip_at HQ0.out hy
        clear hy
        have hneq : q ≠ []:=List.length_pos_iff.1 (by omega)
        have HTK : Hid ((zI4 p K q).take (k + 1) = (zI4 p K q).take k ++ [(x - K * y)]):=qA3 HAT.out
        have HLK : Hid (k = ((zI4 p K q).take k).length):=by show _ = _; rw [List.length_take,HRL.out]; omega
        have sB:=bb.size
        go_upto_region 6 with (fail)
        have lt3_4:=Blk.lt B1
        refine zC9 5 [Pd.eq (.int .i64 (k : Int)),Pd.eq (.pointer (some ⟨g0_,o0_ + k * 3,none⟩)),Pd.eq (.agg #[.bool (ngB x.num),.slice Ae0 (digs 4294967296 x.num.natAbs).length ce0,.slice De0 (digs 4294967296 x.den).length ee0]),pn 83 #[.bool false,.slice none 0 0,.slice none 0 0] wr.heap.size,Pd.eq (.int .i64 (k : Int))] (by kernel_rfl) ?ob5 ?done5
        case ob5 =>
          refine zA (zC2 rfl (zB6 rfl) (zB8 rfl rfl) (fun _ _ h => h)) ?_
          refine zA (zK5 rfl (zB6 rfl) (zB8 rfl rfl) (zB8 rfl rfl) (fun _ _ _ hx hy => ⟨_,by rw [hx,hy]; exact zK Tryz.underlying44 (by kernel_rfl) hlt _,rfl⟩)) ?_
          refine zA (zC rfl (zB6 rfl) (zB7 (j:=1) (by kernel_rfl) rfl rfl) (fun w2 hb => zT0 Tryz.underlying83 rfl (by kernel_rfl) ((hb.cell (World.block_lt_of_cell? wr _ e00)).trans e00) ((hb.cell (World.block_lt_of_cell? wr _ e01)).trans e01) ((hb.cell (World.block_lt_of_cell? wr _ e02)).trans e02)) (fun _ _ => rfl)) ?_
          refine zA (zN6 (z:=.agg #[.bool false,.slice none 0 0,.slice none 0 0]) rfl rfl (fun _ => by kernel_rfl) (fun _ _ hB h => ⟨_,rfl,hB,h⟩)) ?_
          refine zA (zE8 rfl (zB6 rfl) (zB7 (j:=0) (by kernel_rfl) rfl rfl) (fun _ _ h => h)) ?_
          trivial
        case done5 =>
          refine fun w4 hb4 v0 h0 v1 h1 v2 h2 v3 h3 d3 v4 h4 b hbf => ?_
          obtain rfl:=h0; obtain rfl:=h1; obtain rfl:=h2; obtain rfl:=h4
          obtain ⟨g5_3,rfl,hg3,B3⟩:=h3
          simp only [Act.put,zA0,zA2,zA1] at hbf
          subst hbf
          replace B1:=B1.below hb4
          replace k1s:=k1s.below hb4
          replace k1d:=k1d.below hb4
          replace k1z:=k1z.below hb4
          replace k1:=k1.below hb4
          replace RN:=RN.below hb4
          replace es0:=es0.below hb4
          replace ed0:=ed0.below hb4
          replace bb:=bb.trans (hb4.mono bb.size)
          have hsz4:=bb.size
          have BA10:=B3
          have q2:=es0
          have d2:=ed0
          refine zG8 (i:=5) rfl rfl rfl rfl rfl rfl (cells:=[.bool (ngB (x).num),.slice Ae0 (digs 4294967296 (x).num.natAbs).length ce0,.slice De0 (digs 4294967296 (x).den).length ee0]) rfl BA10 rfl (by kernel_rfl) (zI3 rfl rfl rfl) fun w5 hg5 BN5 => ?_
          replace q2:=off q2 BA10 zE hg5
          replace d2:=off d2 BA10 zE hg5
          replace RN:=zD0.offb RN BA10 zE hg5 (by omega)
          replace k1s:=off k1s BA10 zE hg5
          replace k1d:=off k1d BA10 zE hg5
          replace k1z : IsZ w5 (.agg #[.bool (ngB (K).num),.slice A1 (digs 4294967296 (K).num.natAbs).length c1]) ((K).num):=⟨_,rfl,k1s⟩
          replace k1 : IsQ w5 (.agg #[.bool (ngB (K).num),.slice A1 (digs 4294967296 (K).num.natAbs).length c1,.slice D1 (digs 4294967296 (K).den).length e1]) (K):=⟨_,_,rfl,k1s,k1d⟩
          replace B1:=B1.grown hg5 (by omega)
          replace bb:=bb.trans ((Below.refl _ _).grown hg5 bb.size (fun g hg => by injection hg with hg; omega))
          have hsz5:=bb.size
          have Be0 : Blk w5 (g5_3) _ _:=BN5
          have ke0s:=q2
          have ke0d:=d2
          have ke0z : IsZ w5 (.agg #[.bool (ngB (x).num),.slice Ae0 (digs 4294967296 (x).num.natAbs).length ce0]) ((x).num):=⟨_,rfl,ke0s⟩
          have ke0 : IsQ w5 (.agg #[.bool (ngB (x).num),.slice Ae0 (digs 4294967296 (x).num.natAbs).length ce0,.slice De0 (digs 4294967296 (x).den).length ee0]) (x):=⟨_,_,rfl,ke0s,ke0d⟩
          refine zD ?_
          have hle:=Be0.lt
          have hneE : g ≠ g5_3:=by omega
          obtain ⟨g2_,o2_,cp2_,hA2_,_,_,_⟩:=sl2.place hneq
          injection hA2_ with e1_ _ e3_
          subst e1_
          subst e3_
          obtain ⟨uy,ty,hlty,zy0,zy1,zy2,zys,zyd⟩:=(sl2.below bb).at2 HY.out
          obtain ⟨Ay,cy,rfl,_⟩:=id zys
          obtain ⟨Dy,ey,rfl,_⟩:=id zyd
          have zy : IsQ w5 (.agg #[.bool (ngB (y).num),.slice Ay (digs 4294967296 (y).num.natAbs).length cy,.slice Dy (digs 4294967296 (y).den).length ey]) (y):=⟨_,_,rfl,zys,zyd⟩
          by_cases hv : K * y = 0
          · have HV : Hid (true = decide (K * y = 0)):=(decide_eq_true hv).symm
            have HXE : Hid (x = x - K * y):=by show _ = _; rw [hv]; grind
            clear hv
            have sB:=bb.size
            go_upto_region 7 with (fail)
            refine flow 6 [Pd.eq (.agg #[.bool (ngB (K).num),.slice A1 (digs 4294967296 (K).num.natAbs).length c1,.slice D1 (digs 4294967296 (K).den).length e1]),Pd.eq (.slice (some ⟨g2_,o2_,none⟩) q.length c2),Pd.eq (.int .i64 (k : Int)),Pd.eq (.pointer (some ⟨g2_,o2_ + k * 3,none⟩)),Pd.eq (.agg #[.bool (ngB (y).num),.slice Ay (digs 4294967296 (y).num.natAbs).length cy,.slice Dy (digs 4294967296 (y).den).length ey]),Pd.eq (.bool true)] (by kernel_rfl) (by kernel_rfl) ?ob6 ?done6
            case ob6 =>
              refine zA (zC rfl (zB6 rfl) (zB8 rfl rfl) (fun w2 hb => zF8 Tryz.underlying83 rfl (by kernel_rfl) (B1.drew.below hb)) (fun _ _ => rfl)) ?_
              refine zA (zC2 rfl (zB6 rfl) (zB8 rfl rfl) (fun _ _ h => h)) ?_
              refine zA (zC2 rfl (zB6 rfl) (zB8 rfl rfl) (fun _ _ h => h)) ?_
              refine zA (zK5 rfl (zB6 rfl) (zB7 (j:=1) (by kernel_rfl) rfl rfl) (zB7 (j:=2) (by kernel_rfl) rfl rfl) (fun _ _ _ hx hy => ⟨_,by rw [hx,hy]; exact zK (k:=k) Tryz.underlying44 (by kernel_rfl) hlty _,rfl⟩)) ?_
              refine zA (zC rfl (zB6 rfl) (zB7 (j:=3) (by kernel_rfl) rfl rfl) (fun w2 hb => zT0 Tryz.underlying83 rfl (by kernel_rfl) ((hb.cell (World.block_lt_of_cell? w5 _ zy0)).trans zy0) ((hb.cell (World.block_lt_of_cell? w5 _ zy1)).trans zy1) ((hb.cell (World.block_lt_of_cell? w5 _ zy2)).trans zy2)) (fun _ _ => rfl)) ?_
              refine zA (zD4 rfl Tryz.func174 (by kernel_rfl) (zB6 rfl) (zB7 (j:=0) (by kernel_rfl) rfl rfl) (zB7 (j:=4) (by kernel_rfl) rfl rfl) (fun w2 u0 u1 hb h0 h1 => by obtain rfl:=h0; obtain rfl:=h1; exact (yE7 _ _ (K) (y) true _ (k1.drew.below hb) (zy.drew.below hb) HV.out).mono fun e w3 h => zD8.pd h)) ?_
              trivial
            case done6 =>
              refine fun w7 hb7 v0 h0 v1 h1 v2 h2 v3 h3 v4 h4 v5 h5 b hbf => ?_
              obtain rfl:=h0; obtain rfl:=h1; obtain rfl:=h2; obtain rfl:=h3; obtain rfl:=h4; obtain rfl:=h5
              simp only [Act.put,zA0,zA2,zA1] at hbf
              subst hbf
              replace B1:=B1.below hb7
              replace k1s:=k1s.below hb7
              replace k1d:=k1d.below hb7
              replace k1z:=k1z.below hb7
              replace k1:=k1.below hb7
              replace Be0:=Be0.below hb7
              replace ke0s:=ke0s.below hb7
              replace ke0d:=ke0d.below hb7
              replace ke0z:=ke0z.below hb7
              replace ke0:=ke0.below hb7
              replace RN:=RN.below hb7
              replace bb:=bb.trans (hb7.mono bb.size)
              have hsz7:=bb.size
              refine zI2 (by kernel_rfl) ?_
              clear zy zy0 zy1 zy2 zys zyd
              have sB:=bb.size
              go_upto_region 8 with (fail)
              refine zC9 5 [Pd.eq (.slice (some ⟨g,0,none⟩) p.length p.length),Pd.eq (.int .i64 (k : Int)),Pd.eq (.agg #[.bool (ngB (x).num),.slice Ae0 (digs 4294967296 (x).num.natAbs).length ce0,.slice De0 (digs 4294967296 (x).den).length ee0]),pq ((x - K * y)) w7.heap.size,Pd.eq (.pointer (some ⟨g,0 + k * 3,none⟩))] (by kernel_rfl) ?ob7 ?done7
              case ob7 =>
                refine zA (zC2 rfl (zB6 rfl) (zB8 rfl rfl) (fun _ _ h => h)) ?_
                refine zA (zC2 rfl (zB6 rfl) (zB8 rfl rfl) (fun _ _ h => h)) ?_
                refine zA (zC rfl (zB6 rfl) (zB8 rfl rfl) (fun w2 hb => zF8 Tryz.underlying83 rfl (by kernel_rfl) (Be0.below hb)) (fun _ _ => rfl)) ?_
                refine zA (zF rfl Tryz.func179 (by kernel_rfl) (zB6 rfl) (zB7 (j:=2) (by kernel_rfl) rfl rfl) (fun w2 u0 hb h0 => by obtain rfl:=h0; exact (yY4 _ x _ (ke0.below hb) (lx.mono (by omega))).mono fun e w3 h => RetQ.pd (h.to HXE.out) hb.size)) ?_
                refine zA (zK5 rfl (zB6 rfl) (zB7 (j:=0) (by kernel_rfl) rfl rfl) (zB7 (j:=1) (by kernel_rfl) rfl rfl) (fun _ _ _ hx hy => ⟨_,by rw [hx,hy]; exact zK (k:=k) Tryz.underlying44 (by kernel_rfl) hlt _,rfl⟩)) ?_
                trivial
              case done7 =>
                refine fun w8 hb8 v0 h0 v1 h1 v2 h2 v3 h3 v4 h4 b hbf => ?_
                obtain rfl:=h0; obtain rfl:=h1; obtain rfl:=h2; obtain rfl:=h4
                obtain ⟨q3,f3⟩:=h3
                simp only [Act.put,zA0,zA2,zA1] at hbf
                subst hbf
                replace B1:=B1.below hb8
                replace k1s:=k1s.below hb8
                replace k1d:=k1d.below hb8
                replace k1z:=k1z.below hb8
                replace k1:=k1.below hb8
                replace Be0:=Be0.below hb8
                replace ke0s:=ke0s.below hb8
                replace ke0d:=ke0d.below hb8
                replace ke0z:=ke0z.below hb8
                replace ke0:=ke0.below hb8
                replace RN:=RN.below hb8
                replace bb:=bb.trans (hb8.mono bb.size)
                have hsz8:=bb.size
                have s_3:=sB
                obtain ⟨u3,t3,rfl,q3,d3⟩:=q3
                obtain ⟨A9,c9,rfl,_⟩:=id q3
                obtain ⟨D9,e9,rfl,_⟩:=id d3
                refine yE4 (j:=5) rfl rfl rfl rfl (g:=g) (i:=k) (q:=(x - K * y)) rfl rfl (by kernel_rfl) RN hlt q3 d3 fun w9 hg9 hP9 => ?_
                replace k1s:=RN.keep hg9 k1s
                replace k1d:=RN.keep hg9 k1d
                replace k1z : IsZ w9 (.agg #[.bool (ngB (K).num),.slice A1 (digs 4294967296 (K).num.natAbs).length c1]) ((K).num):=⟨_,rfl,k1s⟩
                replace k1 : IsQ w9 (.agg #[.bool (ngB (K).num),.slice A1 (digs 4294967296 (K).num.natAbs).length c1,.slice D1 (digs 4294967296 (K).den).length e1]) (K):=⟨_,_,rfl,k1s,k1d⟩
                replace B1:=B1.grown hg9 (by omega)
                replace ke0s:=RN.keep hg9 ke0s
                replace ke0d:=RN.keep hg9 ke0d
                replace ke0z : IsZ w9 (.agg #[.bool (ngB (x).num),.slice Ae0 (digs 4294967296 (x).num.natAbs).length ce0]) ((x).num):=⟨_,rfl,ke0s⟩
                replace ke0 : IsQ w9 (.agg #[.bool (ngB (x).num),.slice Ae0 (digs 4294967296 (x).num.natAbs).length ce0,.slice De0 (digs 4294967296 (x).den).length ee0]) (x):=⟨_,_,rfl,ke0s,ke0d⟩
                replace Be0:=Be0.grown hg9 (by omega)
                replace bb:=bb.trans ((Below.refl _ _).grown hg9 bb.size (fun g hg => by injection hg with hg; omega))
                have hsz9:=bb.size
                replace RN:=hP9.1 HLK.out
                clear hP9
                refine zD ?_
                rw [<- HTK.out] at RN
                have hsk : p.length - (k + 1) < p.length - k:=by omega
                go_wp2
                go_roundw
                case rel => exact ⟨k + 1,by omega,RN,B1,bb,by go_num⟩
                case measure => simp [intOf]; omega
          · have HV : Hid (false = decide (K * y = 0)):=(decide_eq_false hv).symm
            clear hv
            have sB:=bb.size
            go_upto_region 7 with (fail)
            refine flow 6 [Pd.eq (.agg #[.bool (ngB (K).num),.slice A1 (digs 4294967296 (K).num.natAbs).length c1,.slice D1 (digs 4294967296 (K).den).length e1]),Pd.eq (.slice (some ⟨g2_,o2_,none⟩) q.length c2),Pd.eq (.int .i64 (k : Int)),Pd.eq (.pointer (some ⟨g2_,o2_ + k * 3,none⟩)),Pd.eq (.agg #[.bool (ngB (y).num),.slice Ay (digs 4294967296 (y).num.natAbs).length cy,.slice Dy (digs 4294967296 (y).den).length ey]),Pd.eq (.bool false)] (by kernel_rfl) (by kernel_rfl) ?ob8 ?done8
            case ob8 =>
              refine zA (zC rfl (zB6 rfl) (zB8 rfl rfl) (fun w2 hb => zF8 Tryz.underlying83 rfl (by kernel_rfl) (B1.drew.below hb)) (fun _ _ => rfl)) ?_
              refine zA (zC2 rfl (zB6 rfl) (zB8 rfl rfl) (fun _ _ h => h)) ?_
              refine zA (zC2 rfl (zB6 rfl) (zB8 rfl rfl) (fun _ _ h => h)) ?_
              refine zA (zK5 rfl (zB6 rfl) (zB7 (j:=1) (by kernel_rfl) rfl rfl) (zB7 (j:=2) (by kernel_rfl) rfl rfl) (fun _ _ _ hx hy => ⟨_,by rw [hx,hy]; exact zK (k:=k) Tryz.underlying44 (by kernel_rfl) hlty _,rfl⟩)) ?_
              refine zA (zC rfl (zB6 rfl) (zB7 (j:=3) (by kernel_rfl) rfl rfl) (fun w2 hb => zT0 Tryz.underlying83 rfl (by kernel_rfl) ((hb.cell (World.block_lt_of_cell? w5 _ zy0)).trans zy0) ((hb.cell (World.block_lt_of_cell? w5 _ zy1)).trans zy1) ((hb.cell (World.block_lt_of_cell? w5 _ zy2)).trans zy2)) (fun _ _ => rfl)) ?_
              refine zA (zD4 rfl Tryz.func174 (by kernel_rfl) (zB6 rfl) (zB7 (j:=0) (by kernel_rfl) rfl rfl) (zB7 (j:=4) (by kernel_rfl) rfl rfl) (fun w2 u0 u1 hb h0 h1 => by obtain rfl:=h0; obtain rfl:=h1; exact (yE7 _ _ (K) (y) false _ (k1.drew.below hb) (zy.drew.below hb) HV.out).mono fun e w3 h => zD8.pd h)) ?_
              trivial
            case done8 =>
              refine fun w7 hb7 v0 h0 v1 h1 v2 h2 v3 h3 v4 h4 v5 h5 b hbf => ?_
              obtain rfl:=h0; obtain rfl:=h1; obtain rfl:=h2; obtain rfl:=h3; obtain rfl:=h4; obtain rfl:=h5
              simp only [Act.put,zA0,zA2,zA1] at hbf
              subst hbf
              replace B1:=B1.below hb7
              replace k1s:=k1s.below hb7
              replace k1d:=k1d.below hb7
              replace k1z:=k1z.below hb7
              replace k1:=k1.below hb7
              replace Be0:=Be0.below hb7
              replace ke0s:=ke0s.below hb7
              replace ke0d:=ke0d.below hb7
              replace ke0z:=ke0z.below hb7
              replace ke0:=ke0.below hb7
              replace RN:=RN.below hb7
              replace bb:=bb.trans (hb7.mono bb.size)
              have hsz7:=bb.size
              refine zI2 (by kernel_rfl) ?_
              clear zy zy0 zy1 zy2 zys zyd
              obtain ⟨ub,tb,hltb,zb0,zb1,zb2,zbs,zbd⟩:=(sl2.below bb).at2 HY.out
              obtain ⟨Ab,cb,rfl,_⟩:=id zbs
              obtain ⟨Db,eb,rfl,_⟩:=id zbd
              have zb : IsQ w7 (.agg #[.bool (ngB (y).num),.slice Ab (digs 4294967296 (y).num.natAbs).length cb,.slice Db (digs 4294967296 (y).den).length eb]) (y):=⟨_,_,rfl,zbs,zbd⟩
              have sB:=bb.size
              go_upto_region 9 with (fail)
              refine flow 11 [Pd.eq (.slice (some ⟨g,0,none⟩) p.length p.length),Pd.eq (.int .i64 (k : Int)),Pd.eq (.agg #[.bool (ngB (x).num),.slice Ae0 (digs 4294967296 (x).num.natAbs).length ce0,.slice De0 (digs 4294967296 (x).den).length ee0]),Pd.eq (.agg #[.bool (ngB (K).num),.slice A1 (digs 4294967296 (K).num.natAbs).length c1,.slice D1 (digs 4294967296 (K).den).length e1]),Pd.eq (.slice (some ⟨g2_,o2_,none⟩) q.length c2),Pd.eq (.int .i64 (k : Int)),Pd.eq (.pointer (some ⟨g2_,o2_ + k * 3,none⟩)),Pd.eq (.agg #[.bool (ngB (y).num),.slice Ab (digs 4294967296 (y).num.natAbs).length cb,.slice Db (digs 4294967296 (y).den).length eb]),pqn (K * y),pq ((x - K * y)) w7.heap.size,Pd.eq (.pointer (some ⟨g,0 + k * 3,none⟩))] (by kernel_rfl) (by kernel_rfl) ?ob9 ?done9
              case ob9 =>
                refine zA (zC2 rfl (zB6 rfl) (zB8 rfl rfl) (fun _ _ h => h)) ?_
                refine zA (zC2 rfl (zB6 rfl) (zB8 rfl rfl) (fun _ _ h => h)) ?_
                refine zA (zC rfl (zB6 rfl) (zB8 rfl rfl) (fun w2 hb => zF8 Tryz.underlying83 rfl (by kernel_rfl) (Be0.drew.below hb)) (fun _ _ => rfl)) ?_
                refine zA (zC rfl (zB6 rfl) (zB8 rfl rfl) (fun w2 hb => zF8 Tryz.underlying83 rfl (by kernel_rfl) (B1.drew.below hb)) (fun _ _ => rfl)) ?_
                refine zA (zC2 rfl (zB6 rfl) (zB8 rfl rfl) (fun _ _ h => h)) ?_
                refine zA (zC2 rfl (zB6 rfl) (zB8 rfl rfl) (fun _ _ h => h)) ?_
                refine zA (zK5 rfl (zB6 rfl) (zB7 (j:=4) (by kernel_rfl) rfl rfl) (zB7 (j:=5) (by kernel_rfl) rfl rfl) (fun _ _ _ hx hy => ⟨_,by rw [hx,hy]; exact zK (k:=k) Tryz.underlying44 (by kernel_rfl) hltb _,rfl⟩)) ?_
                refine zA (zC rfl (zB6 rfl) (zB7 (j:=6) (by kernel_rfl) rfl rfl) (fun w2 hb => zT0 Tryz.underlying83 rfl (by kernel_rfl) ((hb.cell (World.block_lt_of_cell? w7 _ zb0)).trans zb0) ((hb.cell (World.block_lt_of_cell? w7 _ zb1)).trans zb1) ((hb.cell (World.block_lt_of_cell? w7 _ zb2)).trans zb2)) (fun _ _ => rfl)) ?_
                refine zA (zD4 rfl Tryz.func127 (by kernel_rfl) (zB6 rfl) (zB7 (j:=3) (by kernel_rfl) rfl rfl) (zB7 (j:=7) (by kernel_rfl) rfl rfl) (fun w2 u0 u1 hb h0 h1 => by obtain rfl:=h0; obtain rfl:=h1; exact (qQ8 _ K _ y _ (k1.drew.below hb) (zb.drew.below hb) (lK.mono (by omega)) (ly.mono (by omega))).mono fun e w3 h => qI2.pd h.n)) ?_
                refine zA (zD4 rfl Tryz.func180 (by kernel_rfl) (zB6 rfl) (zB7 (j:=2) (by kernel_rfl) rfl rfl) (zB7 (j:=8) (by kernel_rfl) rfl rfl) (fun w2 u0 u1 hb h0 h1 => by obtain rfl:=h0; exact (yX3 _ x _ (K * y) _ (ke0.drew.below hb) h1 (lx.mono (by omega)) (lky.mono (by omega))).mono fun e w3 h => RetQ.pd h hb.size)) ?_
                refine zA (zK5 rfl (zB6 rfl) (zB7 (j:=0) (by kernel_rfl) rfl rfl) (zB7 (j:=1) (by kernel_rfl) rfl rfl) (fun _ _ _ hx hy => ⟨_,by rw [hx,hy]; exact zK (k:=k) Tryz.underlying44 (by kernel_rfl) hlt _,rfl⟩)) ?_
                trivial
              case done9 =>
                refine fun w8 hb8 v0 h0 v1 h1 v2 h2 v3 h3 v4 h4 v5 h5 v6 h6 v7 h7 v8 h8 v9 h9 v10 h10 b hbf => ?_
                obtain rfl:=h0; obtain rfl:=h1; obtain rfl:=h2; obtain rfl:=h3; obtain rfl:=h4; obtain rfl:=h5; obtain rfl:=h6; obtain rfl:=h7; obtain rfl:=h10
                have q8:=h8
                obtain ⟨q9,f9⟩:=h9
                simp only [Act.put,zA0,zA2,zA1] at hbf
                subst hbf
                replace B1:=B1.below hb8
                replace k1s:=k1s.below hb8
                replace k1d:=k1d.below hb8
                replace k1z:=k1z.below hb8
                replace k1:=k1.below hb8
                replace Be0:=Be0.below hb8
                replace ke0s:=ke0s.below hb8
                replace ke0d:=ke0d.below hb8
                replace ke0z:=ke0z.below hb8
                replace ke0:=ke0.below hb8
                replace RN:=RN.below hb8
                replace bb:=bb.trans (hb8.mono bb.size)
                have hsz8:=bb.size
                have s_9:=sB
                obtain ⟨u9,t9,rfl,q9,d9⟩:=q9
                obtain ⟨A9,c9,rfl,_⟩:=id q9
                obtain ⟨D9,e9,rfl,_⟩:=id d9
                refine yX9 (j:=11) (by kernel_rfl) rfl rfl rfl rfl (g:=g) (i:=k) (q:=(x - K * y)) rfl rfl (by kernel_rfl) RN hlt q9 d9 fun w9 hg9 hP9 => ?_
                replace k1s:=RN.keep hg9 k1s
                replace k1d:=RN.keep hg9 k1d
                replace k1z : IsZ w9 (.agg #[.bool (ngB (K).num),.slice A1 (digs 4294967296 (K).num.natAbs).length c1]) ((K).num):=⟨_,rfl,k1s⟩
                replace k1 : IsQ w9 (.agg #[.bool (ngB (K).num),.slice A1 (digs 4294967296 (K).num.natAbs).length c1,.slice D1 (digs 4294967296 (K).den).length e1]) (K):=⟨_,_,rfl,k1s,k1d⟩
                replace B1:=B1.grown hg9 (by omega)
                replace ke0s:=RN.keep hg9 ke0s
                replace ke0d:=RN.keep hg9 ke0d
                replace ke0z : IsZ w9 (.agg #[.bool (ngB (x).num),.slice Ae0 (digs 4294967296 (x).num.natAbs).length ce0]) ((x).num):=⟨_,rfl,ke0s⟩
                replace ke0 : IsQ w9 (.agg #[.bool (ngB (x).num),.slice Ae0 (digs 4294967296 (x).num.natAbs).length ce0,.slice De0 (digs 4294967296 (x).den).length ee0]) (x):=⟨_,_,rfl,ke0s,ke0d⟩
                replace Be0:=Be0.grown hg9 (by omega)
                replace bb:=bb.trans ((Below.refl _ _).grown hg9 bb.size (fun g hg => by injection hg with hg; omega))
                have hsz9:=bb.size
                replace RN:=hP9.1 HLK.out
                clear hP9
                refine zI2 (by kernel_rfl) ?_
                rw [<- HTK.out] at RN
                have hsk : p.length - (k + 1) < p.length - k:=by omega
                go_wp2
                go_roundw
                case rel => exact ⟨k + 1,by omega,RN,B1,bb,by go_num⟩
                case measure => simp [intOf]; omega
      · rw [zA7 (by rw [HRL.out]; omega)] at RN
        have HRN : Hid (zD0 wr g (zI4 p K q).length (zI4 p K q)):=by
          show zD0 _ _ _ _
          rw [HRL.out]; exact RN
        clear RN
        go_wp2
        go_ret2
        exact ⟨g,by rw [HRL.out]; rfl,HRN.out,hgw,bb⟩
theorem eqf_any (a0 a1 : Value) (p q : List Rat) (b : Bool) (w : World) (h0 : SlF .u64 4294967296 w a0 p) (h1 : SlF .u64 4294967296 w a1 q) (hb : b = decide (p = q)) :
  Calls Tryz.prog 78 #[a0,a1,.func (.func 79) #[] #[]] w (zD8 (.bool b) w):=by
 have bb : Below w.heap.size w w:=Below.refl _ _
 have sl0:=h0
 obtain ⟨A0,c0,rfl,hc0,hm0⟩:=h0.shape
 unfold maxLen at hm0
 have sl1:=h1
 obtain ⟨A1,c1,rfl,hc1,hm1⟩:=h1.shape
 unfold maxLen at hm1
 have HB:=Lib.hid hb
 clear hb
 go_enter Tryz.func78,Tryz.ntmps78
 go_upto_region 1 with (fail)
 have hsz0:=bb.size
 by_cases he : p.length = q.length
 ·have HNE : Hid ((((p.length : Nat) : Int) != ((q.length : Nat) : Int)) = false):=by show _ = _; rw [bne_eq_false_iff_eq]; omega
  have HE:=Lib.hid he
  clear he
  have sB:=bb.size
  refine zC9 5 [Pd.eq (.slice A0 p.length c0),Pd.eq (.int .i64 ((p.length : Nat) : Int)),Pd.eq (.slice A1 q.length c1),Pd.eq (.int .i64 ((q.length : Nat) : Int)),Pd.eq (.bool false)] (by kernel_rfl) ?ob11 ?done11
  case ob11 =>
   refine zA (zC2 rfl (zB6 rfl) (zB8 rfl rfl) (fun _ _ h => h)) ?_
   refine zA (zM0 rfl (zB6 rfl) (zB7 (j:=0) (by kernel_rfl) rfl rfl) (fun _ _ hx => ⟨_,by rw [hx]; exact zM1 Tryz.underlying44 _ _ _ _,rfl⟩)) ?_
   refine zA (zC2 rfl (zB6 rfl) (zB8 rfl rfl) (fun _ _ h => h)) ?_
   refine zA (zM0 rfl (zB6 rfl) (zB7 (j:=2) (by kernel_rfl) rfl rfl) (fun _ _ hx => ⟨_,by rw [hx]; exact zM1 Tryz.underlying44 _ _ _ _,rfl⟩)) ?_
   refine zA (zG4 rfl (zB6 rfl) (zB7 (j:=1) (by kernel_rfl) rfl rfl) (zB7 (j:=3) (by kernel_rfl) rfl rfl) (fun _ _ _ hx hy => ⟨.bool false,by rw [hx,hy,qC6,HNE.out],rfl⟩)) ?_
   trivial
  case done11 =>
   refine fun w2 hb2 v0 h0 v1 h1 v2 h2 v3 h3 v4 h4 b hbf => ?_
   obtain rfl:=h0; obtain rfl:=h1; obtain rfl:=h2; obtain rfl:=h3; obtain rfl:=h4
   simp only [Act.put,zA0,zA2,zA1] at hbf
   subst hbf
   replace bb:=bb.trans (hb2.mono bb.size)
   have hsz2:=bb.size
   refine zD ?_
   go_wp2
   go_loopw [17] (fun v17 wr => ∃ k : Nat,k <= p.length /\ Hid (p.take k = q.take k) /\ Below w.heap.size w wr /\ v17 = .int .i64 (k : Int)) (fun v17 _ => p.length - (intOf v17).toNat)
   case atStart => exact ⟨0,by omega,rfl,bb,rfl⟩
   case round =>
    obtain ⟨k,hk,HA,hbw,rfl⟩:=hrel
    clear bb
    have bb:=hbw
    clear hbw
    have hszr:=bb.size
    by_cases hlt : k < p.length
    ·have hlt2 : k < q.length:=by have:=HE.out; omega
     have hneq : q ≠ []:=List.length_pos_iff.1 (by omega)
     obtain ⟨y,hy⟩ : ∃ y,q[k]? = some y:=⟨_,zA3 hlt2⟩
     have HY:=Lib.hid hy
     clear hy
     obtain ⟨x,hq0_⟩ : ∃ x,p[k]? = some x:=⟨_,zA3 hlt⟩
     obtain ⟨g0_,o0_,ue0,te0,hA0_,_,e00,e01,e02,es0,ed0⟩:=(sl0.below bb).at_ hq0_
     subst hA0_
     have HQ0:=Lib.hid hq0_
     clear hq0_
     obtain ⟨Ae0,ce0,rfl,_⟩:=id es0
     obtain ⟨De0,ee0,rfl,_⟩:=id ed0
     have ke0 : IsQ wr (.agg #[.bool (ngB x.num),.slice Ae0 (digs 4294967296 x.num.natAbs).length ce0,.slice De0 (digs 4294967296 x.den).length ee0]) x:=⟨_,_,rfl,es0,ed0⟩
     have sB:=bb.size
     go_upto_region 5 with (fail)
     refine zC9 5 [Pd.eq (.int .i64 (k : Int)),Pd.eq (.pointer (some ⟨g0_,o0_ + k * 3,none⟩)),Pd.eq (.agg #[.bool (ngB x.num),.slice Ae0 (digs 4294967296 x.num.natAbs).length ce0,.slice De0 (digs 4294967296 x.den).length ee0]),pn 83 #[.bool false,.slice none 0 0,.slice none 0 0] wr.heap.size,Pd.eq (.int .i64 (k : Int))] (by kernel_rfl) ?ob12 ?done12
     case ob12 =>
      refine zA (zC2 rfl (zB6 rfl) (zB8 rfl rfl) (fun _ _ h => h)) ?_
      refine zA (zK5 rfl (zB6 rfl) (zB8 rfl rfl) (zB8 rfl rfl) (fun _ _ _ hx hy => ⟨_,by rw [hx,hy]; exact zK Tryz.underlying44 (by kernel_rfl) hlt _,rfl⟩)) ?_
      refine zA (zC rfl (zB6 rfl) (zB7 (j:=1) (by kernel_rfl) rfl rfl) (fun w2 hb => zT0 Tryz.underlying83 rfl (by kernel_rfl) ((hb.cell (World.block_lt_of_cell? wr _ e00)).trans e00) ((hb.cell (World.block_lt_of_cell? wr _ e01)).trans e01) ((hb.cell (World.block_lt_of_cell? wr _ e02)).trans e02)) (fun _ _ => rfl)) ?_
      refine zA (zN6 (z:=.agg #[.bool false,.slice none 0 0,.slice none 0 0]) rfl rfl (fun _ => by kernel_rfl) (fun _ _ hB h => ⟨_,rfl,hB,h⟩)) ?_
      refine zA (zE8 rfl (zB6 rfl) (zB7 (j:=0) (by kernel_rfl) rfl rfl) (fun _ _ h => h)) ?_
      trivial
     case done12 =>
      refine fun w4 hb4 v0 h0 v1 h1 v2 h2 v3 h3 d3 v4 h4 b hbf => ?_
      obtain rfl:=h0; obtain rfl:=h1; obtain rfl:=h2; obtain rfl:=h4
      obtain ⟨g12_3,rfl,hg3,B3⟩:=h3
      simp only [Act.put,zA0,zA2,zA1] at hbf
      subst hbf
      replace es0:=es0.below hb4
      replace ed0:=ed0.below hb4
      replace bb:=bb.trans (hb4.mono bb.size)
      have hsz4:=bb.size
      have BA8:=B3
      have q2:=es0
      have d2:=ed0
      refine zG8 (i:=5) rfl rfl rfl rfl rfl rfl (cells:=[.bool (ngB (x).num),.slice Ae0 (digs 4294967296 (x).num.natAbs).length ce0,.slice De0 (digs 4294967296 (x).den).length ee0]) rfl BA8 rfl (by kernel_rfl) (zI3 rfl rfl rfl) fun w5 hg5 BN5 => ?_
      replace q2:=off q2 BA8 zE hg5
      replace d2:=off d2 BA8 zE hg5
      replace bb:=bb.trans ((Below.refl _ _).grown hg5 bb.size (fun g hg => by injection hg with hg; omega))
      have hsz5:=bb.size
      have Be0 : Blk w5 (g12_3) _ _:=BN5
      have ke0s:=q2
      have ke0d:=d2
      have ke0z : IsZ w5 (.agg #[.bool (ngB (x).num),.slice Ae0 (digs 4294967296 (x).num.natAbs).length ce0]) ((x).num):=⟨_,rfl,ke0s⟩
      have ke0 : IsQ w5 (.agg #[.bool (ngB (x).num),.slice Ae0 (digs 4294967296 (x).num.natAbs).length ce0,.slice De0 (digs 4294967296 (x).den).length ee0]) (x):=⟨_,_,rfl,ke0s,ke0d⟩
      refine zD ?_
      obtain ⟨g1_,o1_,cp1_,hA1_,_,_,_⟩:=sl1.place hneq
      injection hA1_ with e1_ _ e3_
      subst e1_
      subst e3_
      obtain ⟨uy,ty,hlty,zy0,zy1,zy2,zys,zyd⟩:=(sl1.below bb).at2 HY.out
      obtain ⟨Ay,cy,rfl,_⟩:=id zys
      obtain ⟨Dy,ey,rfl,_⟩:=id zyd
      have zy : IsQ w5 (.agg #[.bool (ngB (y).num),.slice Ay (digs 4294967296 (y).num.natAbs).length cy,.slice Dy (digs 4294967296 (y).den).length ey]) (y):=⟨_,_,rfl,zys,zyd⟩
      have sB:=bb.size
      go_upto_region 6 with (fail)
      have lt5_8:=Blk.lt Be0
      refine zC9 5 [Pd.eq (.slice (some ⟨g1_,o1_,none⟩) q.length c1),Pd.eq (.int .i64 (k : Int)),Pd.eq (.pointer (some ⟨g1_,o1_ + k * 3,none⟩)),Pd.eq (.agg #[.bool (ngB (y).num),.slice Ay (digs 4294967296 (y).num.natAbs).length cy,.slice Dy (digs 4294967296 (y).den).length ey]),pn 83 #[.bool false,.slice none 0 0,.slice none 0 0] w5.heap.size] (by kernel_rfl) ?ob13 ?done13
      case ob13 =>
       refine zA (zC2 rfl (zB6 rfl) (zB8 rfl rfl) (fun _ _ h => h)) ?_
       refine zA (zC2 rfl (zB6 rfl) (zB8 rfl rfl) (fun _ _ h => h)) ?_
       refine zA (zK5 rfl (zB6 rfl) (zB7 (j:=0) (by kernel_rfl) rfl rfl) (zB7 (j:=1) (by kernel_rfl) rfl rfl) (fun _ _ _ hx hy => ⟨_,by rw [hx,hy]; exact zK (k:=k) Tryz.underlying44 (by kernel_rfl) hlty _,rfl⟩)) ?_
       refine zA (zC rfl (zB6 rfl) (zB7 (j:=2) (by kernel_rfl) rfl rfl) (fun w2 hb => zT0 Tryz.underlying83 rfl (by kernel_rfl) ((hb.cell (World.block_lt_of_cell? w5 _ zy0)).trans zy0) ((hb.cell (World.block_lt_of_cell? w5 _ zy1)).trans zy1) ((hb.cell (World.block_lt_of_cell? w5 _ zy2)).trans zy2)) (fun _ _ => rfl)) ?_
       refine zA (zN6 (z:=.agg #[.bool false,.slice none 0 0,.slice none 0 0]) rfl rfl (fun _ => by kernel_rfl) (fun _ _ hB h => ⟨_,rfl,hB,h⟩)) ?_
       trivial
      case done13 =>
       refine fun w6 hb6 v0 h0 v1 h1 v2 h2 v3 h3 v4 h4 d4 b hbf => ?_
       obtain rfl:=h0; obtain rfl:=h1; obtain rfl:=h2; obtain rfl:=h3
       obtain ⟨g13_4,rfl,hg4,B4⟩:=h4
       simp only [Act.put,zA0,zA2,zA1] at hbf
       subst hbf
       replace Be0:=Be0.below hb6
       replace ke0s:=ke0s.below hb6
       replace ke0d:=ke0d.below hb6
       replace ke0z:=ke0z.below hb6
       replace ke0:=ke0.below hb6
       replace zys:=zys.below hb6
       replace zyd:=zyd.below hb6
       replace bb:=bb.trans (hb6.mono bb.size)
       have hsz6:=bb.size
       have BA9:=B4
       have q3:=zys
       have d3:=zyd
       refine zG8 (i:=5) rfl rfl rfl rfl rfl rfl (cells:=[.bool (ngB (y).num),.slice Ay (digs 4294967296 (y).num.natAbs).length cy,.slice Dy (digs 4294967296 (y).den).length ey]) rfl BA9 rfl (by kernel_rfl) (zI3 rfl rfl rfl) fun w7 hg7 BN7 => ?_
       replace q3:=off q3 BA9 zE hg7
       replace d3:=off d3 BA9 zE hg7
       replace ke0s:=off ke0s BA9 zE hg7
       replace ke0d:=off ke0d BA9 zE hg7
       replace ke0z : IsZ w7 (.agg #[.bool (ngB (x).num),.slice Ae0 (digs 4294967296 (x).num.natAbs).length ce0]) ((x).num):=⟨_,rfl,ke0s⟩
       replace ke0 : IsQ w7 (.agg #[.bool (ngB (x).num),.slice Ae0 (digs 4294967296 (x).num.natAbs).length ce0,.slice De0 (digs 4294967296 (x).den).length ee0]) (x):=⟨_,_,rfl,ke0s,ke0d⟩
       replace Be0:=Be0.grown hg7 (by omega)
       replace bb:=bb.trans ((Below.refl _ _).grown hg7 bb.size (fun g hg => by injection hg with hg; omega))
       have hsz7:=bb.size
       have By : Blk w7 (g13_4) _ _:=BN7
       have kys:=q3
       have kyd:=d3
       have kyz : IsZ w7 (.agg #[.bool (ngB (y).num),.slice Ay (digs 4294967296 (y).num.natAbs).length cy]) ((y).num):=⟨_,rfl,kys⟩
       have ky : IsQ w7 (.agg #[.bool (ngB (y).num),.slice Ay (digs 4294967296 (y).num.natAbs).length cy,.slice Dy (digs 4294967296 (y).den).length ey]) (y):=⟨_,_,rfl,kys,kyd⟩
       refine zD ?_
       obtain ⟨u,hu⟩ : ∃ u,u = decide (x = y):=⟨_,rfl⟩
       have HU:=Lib.hid hu
       by_cases hxy : x = y
       ·have HA2 : Hid (p.take (k + 1) = q.take (k + 1)):=by show _ = _; rw [qA3 HQ0.out,qA3 HY.out,HA.out,hxy]
        rw [decide_eq_true hxy] at hu
        subst hu
        clear hxy
        have sB:=bb.size
        go_upto_region 7 with (fail)
        refine zC9 5 [Pd.eq (.func (.func 79) #[] #[]),Pd.eq (.agg #[.bool (ngB (x).num),.slice Ae0 (digs 4294967296 (x).num.natAbs).length ce0,.slice De0 (digs 4294967296 (x).den).length ee0]),Pd.eq (.agg #[.bool (ngB (y).num),.slice Ay (digs 4294967296 (y).num.natAbs).length cy,.slice Dy (digs 4294967296 (y).den).length ey]),Pd.eq (.bool true),Pd.eq (.bool false)] (by kernel_rfl) ?ob14 ?done14
        case ob14 =>
         refine zA (zC2 rfl (zB6 rfl) (zB8 rfl rfl) (fun _ _ h => h)) ?_
         refine zA (zC rfl (zB6 rfl) (zB8 rfl rfl) (fun w2 hb => zF8 Tryz.underlying83 rfl (by kernel_rfl) (Be0.below hb)) (fun _ _ => rfl)) ?_
         refine zA (zC rfl (zB6 rfl) (zB8 rfl rfl) (fun w2 hb => zF8 Tryz.underlying83 rfl (by kernel_rfl) (By.below hb)) (fun _ _ => rfl)) ?_
         refine zA (qK rfl (zB7 (j:=0) (by kernel_rfl) rfl rfl) Tryz.func79 (by kernel_rfl) (zB6 rfl) (zB7 (j:=1) (by kernel_rfl) rfl rfl) (zB7 (j:=2) (by kernel_rfl) rfl rfl) (fun w2 u0 u1 hb h0 h1 => by obtain rfl:=h0; obtain rfl:=h1; exact (yD7 _ _ x y true _ (ke0.below hb) (ky.below hb) HU.out).mono fun e w3 h => zD8.pd h)) ?_
         refine zA (zW9 rfl (zB6 rfl) (zB7 (j:=3) (by kernel_rfl) rfl rfl) (fun _ => zZ2 _ _) (fun _ => rfl)) ?_
         trivial
        case done14 =>
         refine fun w9 hb9 v0 h0 v1 h1 v2 h2 v3 h3 v4 h4 b hbf => ?_
         obtain rfl:=h0; obtain rfl:=h1; obtain rfl:=h2; obtain rfl:=h3; obtain rfl:=h4
         simp only [Act.put,zA0,zA2,zA1] at hbf
         subst hbf
         replace Be0:=Be0.below hb9
         replace ke0s:=ke0s.below hb9
         replace ke0d:=ke0d.below hb9
         replace ke0z:=ke0z.below hb9
         replace ke0:=ke0.below hb9
         replace By:=By.below hb9
         replace kys:=kys.below hb9
         replace kyd:=kyd.below hb9
         replace kyz:=kyz.below hb9
         replace ky:=ky.below hb9
         replace bb:=bb.trans (hb9.mono bb.size)
         have hsz9:=bb.size
         refine zD ?_
         have hsk : p.length - (k + 1) < p.length - k:=by omega
         go_wp2
         go_roundw
         case rel => exact ⟨k + 1,by omega,HA2,bb,by go_num⟩
         case measure => simp [intOf]; omega
       ·have HW : Hid (b = false):=by
         show _ = _
         rw [HB.out]
         refine decide_eq_false fun e => ?_
         have h0:=HQ0.out
         rw [e,HY.out] at h0
         exact hxy (Option.some.inj h0).symm
        rw [decide_eq_false hxy] at hu
        subst hu
        clear hxy
        have sB:=bb.size
        go_upto_region 7 with (fail)
        refine zC9 5 [Pd.eq (.func (.func 79) #[] #[]),Pd.eq (.agg #[.bool (ngB (x).num),.slice Ae0 (digs 4294967296 (x).num.natAbs).length ce0,.slice De0 (digs 4294967296 (x).den).length ee0]),Pd.eq (.agg #[.bool (ngB (y).num),.slice Ay (digs 4294967296 (y).num.natAbs).length cy,.slice Dy (digs 4294967296 (y).den).length ey]),Pd.eq (.bool false),Pd.eq (.bool true)] (by kernel_rfl) ?ob15 ?done15
        case ob15 =>
         refine zA (zC2 rfl (zB6 rfl) (zB8 rfl rfl) (fun _ _ h => h)) ?_
         refine zA (zC rfl (zB6 rfl) (zB8 rfl rfl) (fun w2 hb => zF8 Tryz.underlying83 rfl (by kernel_rfl) (Be0.below hb)) (fun _ _ => rfl)) ?_
         refine zA (zC rfl (zB6 rfl) (zB8 rfl rfl) (fun w2 hb => zF8 Tryz.underlying83 rfl (by kernel_rfl) (By.below hb)) (fun _ _ => rfl)) ?_
         refine zA (qK rfl (zB7 (j:=0) (by kernel_rfl) rfl rfl) Tryz.func79 (by kernel_rfl) (zB6 rfl) (zB7 (j:=1) (by kernel_rfl) rfl rfl) (zB7 (j:=2) (by kernel_rfl) rfl rfl) (fun w2 u0 u1 hb h0 h1 => by obtain rfl:=h0; obtain rfl:=h1; exact (yD7 _ _ x y false _ (ke0.below hb) (ky.below hb) HU.out).mono fun e w3 h => zD8.pd h)) ?_
         refine zA (zW9 rfl (zB6 rfl) (zB7 (j:=3) (by kernel_rfl) rfl rfl) (fun _ => zZ2 _ _) (fun _ => rfl)) ?_
         trivial
        case done15 =>
         refine fun w9 hb9 v0 h0 v1 h1 v2 h2 v3 h3 v4 h4 b hbf => ?_
         obtain rfl:=h0; obtain rfl:=h1; obtain rfl:=h2; obtain rfl:=h3; obtain rfl:=h4
         simp only [Act.put,zA0,zA2,zA1] at hbf
         subst hbf
         replace Be0:=Be0.below hb9
         replace ke0s:=ke0s.below hb9
         replace ke0d:=ke0d.below hb9
         replace ke0z:=ke0z.below hb9
         replace ke0:=ke0.below hb9
         replace By:=By.below hb9
         replace kys:=kys.below hb9
         replace kyd:=kyd.below hb9
         replace kyz:=kyz.below hb9
         replace ky:=ky.below hb9
         replace bb:=bb.trans (hb9.mono bb.size)
         have hsz9:=bb.size
         refine zD ?_
         go_wp2
         go_ret
         exact ⟨by rw [HW.out]; rfl,bb⟩
    ·have HW : Hid (b = true):=by
      show _ = _
      rw [HB.out]
      have:=HA.out
      rw [zA7 (by omega),zA7 (by have:=HE.out; omega)] at this
      exact decide_eq_true this
     go_wp2
     go_ret
     exact ⟨by rw [HW.out]; rfl,bb⟩
 ·have HNE : Hid ((((p.length : Nat) : Int) != ((q.length : Nat) : Int)) = true):=by show _ = _; rw [bne_iff_ne]; omega
  have HW : Hid (b = false):=by show _ = _; rw [HB.out]; exact decide_eq_false fun e => he (by rw [e])
  clear he
  have sB:=bb.size
  refine zC9 5 [Pd.eq (.slice A0 p.length c0),Pd.eq (.int .i64 ((p.length : Nat) : Int)),Pd.eq (.slice A1 q.length c1),Pd.eq (.int .i64 ((q.length : Nat) : Int)),Pd.eq (.bool true)] (by kernel_rfl) ?ob10 ?done10
  case ob10 =>
   refine zA (zC2 rfl (zB6 rfl) (zB8 rfl rfl) (fun _ _ h => h)) ?_
   refine zA (zM0 rfl (zB6 rfl) (zB7 (j:=0) (by kernel_rfl) rfl rfl) (fun _ _ hx => ⟨_,by rw [hx]; exact zM1 Tryz.underlying44 _ _ _ _,rfl⟩)) ?_
   refine zA (zC2 rfl (zB6 rfl) (zB8 rfl rfl) (fun _ _ h => h)) ?_
   refine zA (zM0 rfl (zB6 rfl) (zB7 (j:=2) (by kernel_rfl) rfl rfl) (fun _ _ hx => ⟨_,by rw [hx]; exact zM1 Tryz.underlying44 _ _ _ _,rfl⟩)) ?_
   refine zA (zG4 rfl (zB6 rfl) (zB7 (j:=1) (by kernel_rfl) rfl rfl) (zB7 (j:=3) (by kernel_rfl) rfl rfl) (fun _ _ _ hx hy => ⟨.bool true,by rw [hx,hy,qC6,HNE.out],rfl⟩)) ?_
   trivial
  case done10 =>
   refine fun w2 hb2 v0 h0 v1 h1 v2 h2 v3 h3 v4 h4 b hbf => ?_
   obtain rfl:=h0; obtain rfl:=h1; obtain rfl:=h2; obtain rfl:=h3; obtain rfl:=h4
   simp only [Act.put,zA0,zA2,zA1] at hbf
   subst hbf
   replace bb:=bb.trans (hb2.mono bb.size)
   have hsz2:=bb.size
   refine zD ?_
   go_wp2
   go_ret
   exact ⟨by rw [HW.out]; rfl,bb⟩
theorem yE8 (a0 a1 : Value) (p q : List Rat) (b : Bool) (w : World) (h0 : SlF .u64 4294967296 w a0 p) (h1 : SlF .u64 4294967296 w a1 q) (hb : b = decide (p = q)) :
  Calls Tryz.prog 39 #[a0,a1] w (zD8 (.bool b) w):=by
 have bb : Below w.heap.size w w:=Below.refl _ _
 have sl0:=h0
 obtain ⟨A0,c0,rfl,hc0,hm0⟩:=h0.shape
 unfold maxLen at hm0
 have sl1:=h1
 obtain ⟨A1,c1,rfl,hc1,hm1⟩:=h1.shape
 unfold maxLen at hm1
 have HB:=Lib.hid hb
 clear hb
 go_enter Tryz.func39,Tryz.ntmps39
 go_upto_region 1 with (fail)
 have hsz0:=bb.size
 have k0:=sl0.below bb
 have k1:=sl1.below bb
 have sB:=bb.size
 refine zC9 4 [Pd.eq (.slice A0 p.length c0),Pd.eq (.slice A1 q.length c1),Pd.eq (.bool b),Pd.eq (.bool b)] (by kernel_rfl) ?ob16 ?done16
 case ob16 =>
  refine zA (zC2 rfl (zB6 rfl) (zB8 rfl rfl) (fun _ _ h => h)) ?_
  refine zA (zC2 rfl (zB6 rfl) (zB8 rfl rfl) (fun _ _ h => h)) ?_
  refine zA (qY8 rfl Tryz.func78 (by kernel_rfl) (zB6 rfl) (zB7 (j:=0) (by kernel_rfl) rfl rfl) (zB7 (j:=1) (by kernel_rfl) rfl rfl) (yE5 _) (fun w2 u0 u1 u2 hb h0 h1 h2 => by obtain rfl:=h0; obtain rfl:=h1; obtain rfl:=h2; exact (eqf_any _ _ p q b _ (k0.below hb) (k1.below hb) HB.out).mono fun e w3 h => zD8.pd h)) ?_
  refine zA (zE8 rfl (zB6 rfl) (zB7 (j:=2) (by kernel_rfl) rfl rfl) (fun _ _ h => h)) ?_
  trivial
 case done16 =>
  refine fun w1 hb1 v0 h0 v1 h1 v2 h2 v3 h3 b hbf => ?_
  obtain rfl:=h0; obtain rfl:=h1; obtain rfl:=h2; obtain rfl:=h3
  simp only [Act.put,zA0,zA2,zA1] at hbf
  subst hbf
  replace bb:=bb.trans (hb1.mono bb.size)
  have hsz1:=bb.size
  refine zD ?_
  go_wp2
  go_ret
  exact ⟨rfl,bb⟩
end Go.Proofs.YtagaabooccnamaaGreat.rat
