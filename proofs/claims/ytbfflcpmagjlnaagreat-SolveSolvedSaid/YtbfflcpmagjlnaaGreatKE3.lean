/- A region that draws its order, one of whose operations may come behind the first store ('lateStores': the second extract of 'x, y := f(a, b)'): it is . Condition: as each says. -/
import Derived.Test.YtbfflcpmagjlnaaGreatKE2
import Derived.Deep.SlicePairs
import Derived.Deep.Slices
open Go.Proofs.Tryz
open Go.Lib renaming hid -> hQ9
set_option linter.unusedVariables false
set_option linter.unusedSimpArgs false
set_option maxRecDepth 100000
set_option maxHeartbeats 6400000
open And renaming intro -> zA
open List renaming setIfInBounds_toArray -> zA0, set_cons_succ -> zA1, set_cons_zero -> zA2, getElem?_eq_getElem -> zA3, getElem?_eq_some_iff -> zA4, mem_of_getElem? -> zA5, getD_eq_getElem?_getD -> zA6, take_of_length_le -> zA7, length_append -> zA8, length_map -> zA9, replicate -> zB, getElem?_append_left -> zB0, getElem?_map -> zB1, length_set -> zB2
open Nat renaming le_refl -> zB3, le_trans -> zB4
open Go.World renaming block_lt_of_cell? -> bQ0
open List renaming getElem?_set_self -> bQ3, length_take -> bQ7, take_add_one -> bQ9, getElem?_append_right -> bW0, getElem?_set_ne -> bW1, mem_or_eq_of_mem_set -> bW3, getElem?_eq_none -> bW4, ext_getElem? -> bX0, length_cons -> bX3, map_toArray -> bX7
open Nat renaming mul_assoc -> bX8, pow_le_pow_right -> bX9, mul_comm -> bY0, pow_succ -> bY1, lt_of_lt_of_le -> bY2, zero_add -> bY5
namespace Go.Proofs.YtbfflcpmagjlnaaGreat
namespace flow
open Go.RowKit num mem
def qG8 (L:List Oper) (q n:Nat) (o:Oper):Bool :=
 (List.range n).all fun i=>i == q || (zR5 o).contains i || (List.range n).any fun k=>decide (i<k) && (!(k == q) && ((L[k]?).map fun x=>(zR5 x).contains i).getD false)
theorem jB8 {L:List Oper} {q:Nat} {o:Oper} {ms:List (Option Value)} (hlen:ms.length=L.length) (h:qG8 L q L.length o=true) (hdone:∀ e∈o.after,Region.binds .any e=true -> ∃ v,ms[e.on]?=some (some v))
    (hdc:∀ (j:Nat) (x:Oper) (v:Value),L[j]?=some x->ms[j]?=some (some v) -> ∀ e∈x.after,Region.binds .any e=true -> ∃ v,ms[e.on]?=some (some v)):∀ i,i<L.length->i≠q -> ∃ v,ms[i]?=some (some v):=by
  unfold qG8 at h
  have key:∀ k i,i+k=L.length->i<L.length->i≠q -> ∃ v,ms[i]?=some (some v):=by
    intro k
    induction k using Nat.strongRecOn with
    | ind k ih =>
      intro i hik hi hiq;have h1:=List.all_eq_true.1 h i (by simp [hi]);rw [Bool.or_eq_true,Bool.or_eq_true] at h1;rcases h1 with (h1 | h1)|h1
      · exact absurd (by simpa using h1) hiq
      · obtain ⟨e,he,hb,rfl⟩:=zY8.1 (by simpa using h1);exact hdone e he hb
      · obtain ⟨m,hm,h2⟩:=List.any_eq_true.1 h1;rw [Bool.and_eq_true,Bool.and_eq_true] at h2;have hm2:m<L.length:=by simpa using hm
        have him:i<m:=by simpa using h2.1
        have hmq:m≠q:=by simpa using h2.2.1
        obtain ⟨v,hv⟩:=ih (L.length-m) (by omega) m (by omega) hm2 hmq;have h3:=h2.2.2;rw [zA3 hm2] at h3;obtain ⟨e,he,hb,rfl⟩:=zY8.1 (by simpa using h3);exact hdc m _ v (zA3 hm2) hv e he hb
  intro i hi hiq;exact key (L.length-i) i (by omega) hi hiq
def zV (n m q:Nat):Array Bool:=((zB n true).set q false ++ zB m false).toArray
theorem lst_but {L:List Oper} {q m:Nat} {ms:List (Option Value)} (hlen:ms.length=L.length) (hbut:∀ i,i<L.length->i≠q -> ∃ v,ms[i]?=some (some v)) (hmq:ms[q]?=some none):lst ms m=zV L.length m q:=by
 unfold lst zV
 congr 2
 refine List.ext_getElem (by simp [hlen]) fun i h1 h2 => ?_;have h3:i<ms.length:=by simpa using h1
 rw [List.getElem_map,List.getElem_set];by_cases e:q=i
 ·subst e;rw [if_pos rfl];rw [zA3 h3] at hmq;rw [Option.some.inj hmq];rfl
 ·rw [if_neg e];obtain ⟨v,hv⟩:=hbut i (by omega) (fun h=>e h.symm);rw [zA3 h3] at hv;rw [Option.some.inj hv];simp
theorem jB9 {P:Program} {Q:Exit->Act->World->Prop} {ops:Array Oper} {L L2:List Oper} {Φ : List Pd} {w0:World} {a0:Act} (hop:ops.toList=L ++ L2) (hd:zL7 L=true) (hback:zQ3 0 L=true) {q:Nat} {oq:Oper} (hq:L[q]?=some oq) (hcov:(L2.all fun o=>zV8 L L.length o || qG8 L q L.length o)=true) (hsel:Region.noSelect ops=true) (hfree:Region.free .any ops (zV L.length L2.length q) q=true) (hrdy:(Region.ready .any ops (zV L.length L2.length q)).contains q=true) (hQ:∀ c a w v,Q (.panic c) (a.put oq.dst v) w->Q (.panic c) a w)
    (late:∀ ms w,St L Φ w0 oq ms w -> ∃ v,Yields P ops oq v (zD9 a0 L ms)/\(ph Φ q).p w v) (hA:isA oq=false)
    (ob:Obs P Q ops L Φ w0 a0 0 L)
    (done:∀ ms w,(∀ i,i<L.length -> ∃ v,ms[i]?=some (some v))->Inv L Φ w0 ms w->wpAny P .any ops Q L2.length (lst ms L2.length) (zD9 a0 L ms) w) :
    ∀ (k:Nat) (ms:List (Option Value)) (w:World),(ms.filter Option.isNone).length=k->Inv L Φ w0 ms w->wpAny P .any ops Q (k+L2.length) (lst ms L2.length) (zD9 a0 L ms) w:=by
  have hsz:ops.size=L.length+L2.length:=by
    have:=congrArg List.length hop
    simpa using this
  have hat:∀ i,ops[i]?=(L ++ L2)[i]?:=fun i=>by rw [<- hop,Array.getElem?_toList]
  intro k
  induction k with
  | zero =>
    intro ms w hk hI;rw [bY5];refine done ms w (fun i hi => ?_) hI;have hi2:i<ms.length:=by rw [hI.len];exact hi
    rcases hm:ms[i] with _ | v
    · exfalso;have h1:ms[i]∈ms.filter Option.isNone:=List.mem_filter.2 ⟨List.getElem_mem hi2,by rw [hm];rfl⟩;rw [List.length_eq_zero_iff.1 hk] at h1;simp at h1
    · exact ⟨v,by rw [zA3 hi2,hm]⟩
  | succ k ih =>
    intro ms w hk hI
    -- some operation of L has not come up
    have hnot:¬ ∀ i,i<L.length -> ∃ v,ms[i]?=some (some v):=by
      intro hall
      have h0:ms.filter Option.isNone=[]:=by
        rw [List.filter_eq_nil_iff];intro m hm;obtain ⟨i,hi,rfl⟩:=List.mem_iff_getElem.1 hm;obtain ⟨v,hv⟩:=hall i (by rw [<- hI.len];exact hi);rw [zA3 hi] at hv;rw [Option.some.inj hv];simp
      rw [h0] at hk;simp at hk
    -- the least one that has not may come up
    have least:∀ n i,i<=n->i<L.length->Region.ready .any ops (lst ms L2.length)=[] -> ∃ v,ms[i]?=some (some v):=by
      intro n
      induction n with
      | zero =>
        intro i hin hi hr;obtain rfl:i=0:=by omega
        have hi2:0<ms.length:=by rw [hI.len];exact hi
        rcases hm:ms[0] with _ | v
        · exfalso
          have:0∈Region.ready .any ops (lst ms L2.length):=by
            rw [mem_ready];refine ⟨by rw [zS8 hi2,hm];rfl,L[0],by rw [hat,zB0 hi,zA3 hi],?_⟩;intro e he hb
            have:=zY9 L 0 0 _ hback (zA3 hi) e he hb
            omega
          rw [hr] at this;simp at this
        · exact ⟨v,by rw [zA3 hi2,hm]⟩
      | succ n ihn =>
        intro i hin hi hr;have hi2:i<ms.length:=by rw [hI.len];exact hi
        rcases hm:ms[i] with _ | v
        · exfalso
          have:i∈Region.ready .any ops (lst ms L2.length):=by
            rw [mem_ready];refine ⟨by rw [zS8 hi2,hm];rfl,L[i],by rw [hat,zB0 hi,zA3 hi],?_⟩;intro e he hb;have h1:=zY9 L 0 i _ hback (zA3 hi) e he hb;have h3:e.on<ms.length:=by rw [hI.len];omega
            obtain ⟨v,hv⟩:=ihn e.on (by omega) (by omega) hr;rw [zS8 h3];rw [zA3 h3] at hv;rw [Option.some.inj hv];rfl
          rw [hr] at this;simp at this
        · exact ⟨v,by rw [zA3 hi2,hm]⟩
    have hcnt:∀ (i:Nat) (v:Value),ms[i]?=some none->((ms.set i (some v)).filter Option.isNone).length=k:=by
      intro i v hmi
      have key:∀ (l:List (Option Value)) (i:Nat),l[i]?=some none->((l.set i (some v)).filter Option.isNone).length+1=(l.filter Option.isNone).length:=by
        intro l
        induction l with
        | nil=>intro i h;simp at h
        | cons m l ihl =>
          intro i h
          cases i with
          | zero =>
            obtain rfl:m=none:=by simpa using h
            simp
          | succ i =>
            have:=ihl i (by simpa using h)
            rw [zA1,List.filter_cons,List.filter_cons]
            split
            · simp only [bX3];omega
            · exact this
      have:=key ms i hmi
      omega
    have hqL:q<L.length:=(zA4.1 hq).1;by_cases hbut:∀ i,i<L.length->i≠q -> ∃ v,ms[i]?=some (some v)
    · have hq2:q<ms.length:=by rw [hI.len];exact hqL
      have hmq:ms[q]?=some none:=by
        rw [zA3 hq2];rcases hm:ms[q] with _ | v
        · rfl
        · exact absurd (fun i hi=>by
            by_cases e:i=q
            · subst e;exact ⟨v,by rw [zA3 hq2,hm]⟩
            · exact hbut i hi e) hnot
      have hdq:∀ e∈oq.after,Region.binds .any e=true -> ∃ v,ms[e.on]?=some (some v):=by
        intro e he hb
        have:=zY9 L 0 q _ hback hq e he hb
        exact hbut e.on (by omega) (by omega)
      obtain ⟨v,hy,hp⟩:=late ms w ⟨hI.len,hI.bQ,hI.ty,hdq⟩;have el:lst ms L2.length=zV L.length L2.length q:=lst_but hI.len hbut hmq;have hoq:ops[q]?=some oq:=by rw [hat,zB0 hqL];exact hq
      have hnext:=ih (ms.set q (some v)) w (hcnt q v hmq) (hI.step hq hmq hdq (Below.refl _ _) hp (fun h=>by rw [hA] at h;cases h));rw [<- qF6 v hq2,<- zU4 v L ms a0 q oq hd hq hmq] at hnext;rw [show k+1+L2.length=(k+L2.length)+1 from by omega];exact wpAny_take hoq hsel (by rw [el];exact hfree) (by rw [el];exact hrdy) (fun c a w h=>hQ c a w v h) hy hnext
    rw [show k+1+L2.length=(k+L2.length)+1 from by omega];refine ⟨fun hr=>absurd (fun i hi=>least i i (zB3 _) hi hr) hnot,fun i hi => ?_⟩;obtain ⟨h1,o,ho,haft⟩:=mem_ready.1 hi
    have hdeps:∀ e∈o.after,Region.binds .any e=true -> ∃ v,ms[e.on]?=some (some v):=by
      intro e he hb;have h2:=haft e he hb;by_cases h3:e.on<ms.length
      · rw [zS8 h3] at h2;obtain ⟨v,hv⟩:=Option.isSome_iff_exists.1 h2;exact ⟨v,by rw [zA3 h3,hv]⟩
      · rw [yE (by omega)] at h2;cases h2
    by_cases hiL:i<L.length
    · have hi2:i<ms.length:=by rw [hI.len];exact hiL
      rw [zS8 hi2] at h1
      have hmi:ms[i]?=some none:=by
        rw [zA3 hi2];rcases hm:ms[i] with _ | v
        · rfl
        · rw [hm] at h1;cases h1
      have hoL:L[i]?=some o:=by rw [hat,zB0 hiL] at ho;exact ho
      have hob:=ob.at_ L 0 i o hoL;rw [bY5] at hob;have hst:=hob ms w ⟨hI.len,hI.bQ,hI.ty,hdeps⟩
      have hcount:∀ v:Value,((ms.set i (some v)).filter Option.isNone).length=k:=by
        intro v
        have key:∀ (l:List (Option Value)) (i:Nat),l[i]?=some none->((l.set i (some v)).filter Option.isNone).length+1=(l.filter Option.isNone).length:=by
          intro l
          induction l with
          | nil=>intro i h;simp at h
          | cons m l ihl =>
            intro i h
            cases i with
            | zero =>
              obtain rfl:m=none:=by simpa using h
              simp
            | succ i =>
              have:=ihl i (by simpa using h)
              rw [zA1,List.filter_cons,List.filter_cons]
              split
              · simp only [bX3];omega
              · exact this
        have:=key ms i hmi
        omega
      unfold wpOp;rw [ho];simp only [];by_cases hw:Region.wanted o (yielded ops (zD9 a0 L ms).tmps)=true
      · rw [if_pos hw] at hst |-;refine .inl (Oper.wp_mono ?_ hst);rintro a' w' ⟨v,rfl,hb,hv,ha⟩;rw [qF6 v hi2,zU4 v L ms a0 i o hd hoL hmi];exact ih _ w' (hcount v) (hI.step hoL hmi hdeps hb hv ha)
      · rw [if_neg hw] at hst |-;rw [qF6 undef hi2,zU4 undef L ms a0 i o hd hoL hmi];exact ih _ w (hcount undef) (hI.step hoL hmi hdeps (Below.refl _ _) hst.1 (fun h=>by rw [hst.2] at h;cases h))
    · exfalso
      have ho2:o∈L2:=by
        rw [hat,bW0 (by omega)] at ho;exact zA5 ho
      have hc:=List.all_eq_true.1 hcov o ho2;rcases Bool.or_eq_true _ _ ▸ hc with hc | hc
      · exact hnot (yD9 hI.len hc hdeps hI.dc)
      · exact hbut (jB8 hI.len hc hdeps hI.dc)
theorem jC {P:Program} {Q:Exit->Act->World->Prop} {ops:Array Oper} (n:Nat) (Φ : List Pd) {w:World} {a0:Act}
  (h1:zL7 (ops.toList.take n)=true) (h2:zQ3 0 (ops.toList.take n)=true) {q:Nat} {oq:Oper} (hq:(ops.toList.take n)[q]?=some oq) (h3:((ops.toList.drop n).all fun o=>zV8 (ops.toList.take n) (ops.toList.take n).length o || qG8 (ops.toList.take n) q (ops.toList.take n).length o)=true) (h4:Region.noSelect ops=true) (h5:Region.free .any ops (zV (ops.toList.take n).length (ops.toList.drop n).length q) q=true) (h6:(Region.ready .any ops (zV (ops.toList.take n).length (ops.toList.drop n).length q)).contains q=true) (hQ:∀ c a w v,Q (.panic c) (a.put oq.dst v) w->Q (.panic c) a w)
  (late:∀ ms w1,St (ops.toList.take n) Φ w oq ms w1 -> ∃ v,Yields P ops oq v (zD9 a0 (ops.toList.take n) ms)/\(ph Φ q).p w1 v) (hA:isA oq=false)
  (ob:Obs P Q ops (ops.toList.take n) Φ w a0 0 (ops.toList.take n))
  (done:∀ w',Below w.heap.size w w'->zV9 (fun a w'=>wpAny P .any ops Q (ops.toList.drop n).length (zB (ops.toList.take n).length true ++ zB (ops.toList.drop n).length false).toArray a w') Φ w' 0 (ops.toList.take n) [] a0):wpAny P .any ops Q ops.size (Array.replicate ops.size false) a0 w:=by
 have hop:ops.toList=ops.toList.take n ++ ops.toList.drop n:=(List.take_append_drop n _).symm
 generalize ops.toList.take n=L at *
 generalize ops.toList.drop n=L2 at *
 have hsz:ops.size=L.length+L2.length:=by
  have:=congrArg List.length hop
  simpa using this
 have none_:∀ (i:Nat) (v:Value),¬ (zB L.length (none:Option Value))[i]?=some (some v):=by
  intro i v h;rw [List.getElem?_replicate] at h
  split at h<;>cases h
 have hI0:Inv L Φ w (zB L.length none) w:=⟨by simp,Below.refl _ _,fun i v h=>absurd h (none_ i v),fun j x v _ h=>absurd h (none_ j v),fun i j oi oj u v _ _ _ _ _ h _=>absurd h (none_ i u),fun i oi u _ _ h=>absurd h (none_ i u)⟩
 have hmain:=jB9 (P:=P) (Q:=Q) (ops:=ops) (L:=L) (L2:=L2) (Φ:=Φ) (w0:=w) (a0:=a0) hop h1 h2 hq h3 h4 h5 h6 hQ late hA ob (fun ms w' hall hI=>by
  rw [yE1 L2.length hI.len hall]
  have:=qF7 (K:=fun a w'=>wpAny P .any ops Q L2.length (zB L.length true ++ zB L2.length false).toArray a w') hI hall L 0 a0 [] (by simp) (by omega) (by simp) (done w' hI.bQ)
  simpa using this) L.length (zB L.length none) w (by simp) hI0
 rw [qL2,yE0,<- hsz] at hmain;exact hmain
theorem flowl {P:Program} {Q:Exit->Act->World->Prop} {id:Nat} {ops:Array Oper} (n:Nat) (Φ : List Pd) {w:World} {a0:Act} (hm:P.follows .mixedOrders=true)
  (q:Nat) {oq:Oper} (hq:(ops.toList.take n)[q]?=some oq) (hB:(zL7 (ops.toList.take n) && zQ3 0 (ops.toList.take n) && (ops.toList.drop n).all (fun o=>zV8 (ops.toList.take n) (ops.toList.take n).length o || qG8 (ops.toList.take n) q (ops.toList.take n).length o) && Region.noSelect ops && Region.free .any ops (zV (ops.toList.take n).length (ops.toList.drop n).length q) q && (Region.ready .any ops (zV (ops.toList.take n).length (ops.toList.drop n).length q)).contains q && !isA oq)=true) (hQ:∀ c a w v,Q (.panic c) (a.put oq.dst v) w->Q (.panic c) a w)
  (late:∀ ms w1,St (ops.toList.take n) Φ w.drew oq ms w1 -> ∃ v,Yields P ops oq v (zD9 a0 (ops.toList.take n) ms)/\(ph Φ q).p w1 v)
  (ob:Obs P Q ops (ops.toList.take n) Φ w.drew a0 0 (ops.toList.take n))
  (done:∀ w',Below w.heap.size w w'->zV9 (fun a w'=>wpAny P .any ops Q (ops.toList.drop n).length (zB (ops.toList.take n).length true ++ zB (ops.toList.drop n).length false).toArray a w') Φ w' 0 (ops.toList.take n) [] a0):(Code.region id ops true).wp P Q a0 w:=by
 simp only [Bool.and_eq_true] at hB;obtain ⟨⟨⟨⟨⟨⟨h1,h2⟩,h3⟩,h4⟩,h5⟩,h6⟩,hA⟩:=hB;have hA:isA oq=false:=by simpa using hA
 exact wp_region_any hm (jC n Φ (w:=w.drew) h1 h2 hq h3 h4 h5 h6 hQ late hA ob fun w' hb=>done w' ((Below.refl _ w).drew.trans hb))
theorem jC0 {P:Program} {ops:Array Oper} {L:List Oper} {Φ : List Pd} {w0:World} {a0:Act} {o:Oper} {G:Pd} {x:Operand} {k:Nat} {F:World->Value->Prop} (hop:o.op=.extract x k) (hg:o.guard=none) (hx:Ev L Φ w0 a0 o x F)
  (hr:∀ w u,F w u -> ∃ v,(∀ w,(Instr.extract u k).run P w=.ok v w)/\G.p w v):∀ ms w1,St L Φ w0 o ms w1 -> ∃ v,Yields P ops o v (zD9 a0 L ms)/\G.p w1 v:=by
 intro ms w1 hS;obtain ⟨v,h1,h2⟩:=hr w1 _ (hx ms w1 hS);refine ⟨v,.inl ⟨by unfold Region.wanted;rw [hg],fun w => ?_⟩,h2⟩;unfold execOp;simp only [hop];rw [Sem.run_bind,h1];rfl
section
variable {P:Program} {Q:Exit->Act->World->Prop} {ops:Array Oper} {L:List Oper} {Φ : List Pd} {w0:World} {a0:Act} {i:Nat} {o:Oper}
theorem zM5 {t:TypeId} {k l:Nat} {x y:Operand} {F G:World->Value->Prop} (hop:o.op=.build t #[(k,x),(l,y)]) (hw:Wt ops L Φ w0 a0 o true) (hx:Ev L Φ w0 a0 o x F) (hy:Ev L Φ w0 a0 o y G)
  (hr:∀ w u u',Below w0.heap.size w0 w->F w u->G w u' -> ∃ v,(Instr.build t #[(k,u),(l,u')]).run P w=.ok v w/\(ph Φ i).p w v):Ob P Q ops L Φ w0 a0 i o :=
 zO5 hw (by unfold isA;rw [hop]) fun ms w hS=>by
  obtain ⟨v,h1,h2⟩:=hr w _ _ hS.bQ (hx ms w hS) (hy ms w hS);exact ⟨v,by unfold execOp;simp only [hop,Sem.run_bind,bX7,List.map_cons,List.map_nil,h1];rfl,h2⟩
end
end flow
namespace whl
open Go.RowKit num mem nat txt str flow
theorem zL1 (w:World) (t1:TypeId) (x:Array Value):∃ wx,w.alloc (.cells x t1)=wx/\Below w.heap.size w wx/\Blk wx w.heap.size t1 x/\w.heap.size<wx.heap.size:=⟨_,rfl,zC9 (zB3 _) _,Blk.new w t1 x,by simp⟩
end whl
namespace nat
open Go.RowKit num mem
theorem jC1 (v:Value) (c:Nat) (w:World) (h:IsS w .i64 v []) (c1:c<=9223372036854775807) :
  Calls prog 75 #[v,.int .i64 1,.int .i64 (c:Int)] w (zD7 .i64 (digs 10000 c) w):=by
 obtain ⟨A,cap,rfl,hcap,hcm,hr⟩:=h
 have h20:c<10000^5:=by
  have:(10000:Nat)^5=100000000000000000000:=by decide
  omega
 have H20:=hQ9 h20;clear h20
 go_enter func75,ntmps75
 go_wp2
 go_loopw [2,7,8] (fun vc vo vi wr=>Own wr w.heap.size 3 .i64 vo []/\Below w.heap.size w wr/\vc=.int .i64 (c:Int)/\vi=.int .i64 0) (fun _ _ _ _=>0)
 case atStart=>exact ⟨zP w _ _ .i64 (zB3 _),zC9 (zB3 _) _,rfl,rfl⟩
 case round =>
  obtain ⟨hown,hb,rfl,rfl⟩:=hrel;go_wp2
  go_loopw [2,7] (fun vc vo wr => ∃ (c' j:Nat) (o:List Nat),c'<=9223372036854775807/\Hid (c'<10000^j)/\o.length+j<=5/\MB c c' o/\Own wr w.heap.size 3 .i64 vo o/\Below w.heap.size w wr/\vc=.int .i64 (c':Int)) (fun vc _ _=>(intOf vc).toNat)
  case atStart=>exact ⟨c,5,[],c1,H20,by simp,by unfold MB;exact ⟨Lt.nil _,by simp [val]⟩,hown,hb,rfl⟩
  case round =>
   clear hown hb;obtain ⟨c2,j,o2,hc',HJ,hoj,hM,hown,hb,rfl⟩:=hrel;have hsz:=hb.size;by_cases hp:0<c2
   ·have HM:=hQ9 hM.step;clear hM
    obtain ⟨j,rfl⟩:∃ i,j=i+1:=by
     rcases j with _ | j
     ·have:=HJ.out;simp at this;omega
     ·exact ⟨j,rfl⟩
    have HJ2:Hid (c2 / 10000<10000^j):=by
     show _<_
     have:=HJ.out
     rw [bY1] at this;exact Nat.div_lt_of_lt_mul (by rw [bY0];exact this)
    go_wp2_with (at_builtin;refine zS6 rfl (.tmp 33) (.tmp 36) rfl zQ0 (c2 % 10000) rfl hown rfl (by omega) (by omega) (by omega) ?_;intro v' w1 hown1 hb1 hg1)
    go_roundw;case rel=>exact ⟨_,j,_,by omega,HJ2,by simp;omega,HM.out,hown1,hb.trans hb1,zV5 (by omega)⟩
    case measure=>simp [intOf];omega
   ·obtain rfl:c2=0:=by omega
    obtain ⟨h1,h2⟩:=hM.done;have HV:=hQ9 h2;clear h2 hM;go_wp2_with fail
    refine (qB0 _ _ _ hown.isS h1 (by omega)).mono ?_;rintro e w' ⟨v',rfl,hv,hf,hb2⟩;go_wp2;go_ret;exact ⟨_,rfl,by rw [HV.out] at hv;exact hv,hf.mono hsz,hb.trans (hb2.mono hsz)⟩
theorem qT6 (nI:Int) (n:Nat) (w:World) (hn:nI=(n:Int)) (n1:n<=9223372036854775807) :
  Calls prog 41 #[.int .i64 nI] w (zD7 .i64 (digs 10000 n) w):=by
 subst hn
 go_enter func41,ntmps41;go_wp2_with fail
 refine (jC1 _ n _ (zP w w.heap.size _ .i64 (zB3 _)).isS n1).mono ?_;rintro e w' ⟨v',rfl,hv,hf,hb⟩;go_wp2;go_ret;exact ⟨_,rfl,hv,hf.mono (by simp),(zC9 (zB3 _) _).trans (hb.mono (by simp))⟩
end nat
namespace whl
open Go.RowKit num mem nat txt str flow
section
variable {P:Program}
end
def hi (ps:List (Int × Value)):List (Int × Value):=ps.filter fun p => !ngB p.1
def lo (ps:List (Int × Value)):List (Int × Value):=ps.filter fun p=>ngB p.1
end whl
namespace whl
open Go.RowKit Go.ChangeShapes Go.WideShapes Go.ChangeAt Go.Joins Go.Deep num mem nat txt str flow
def zF2 (ps:List (Int × Value)):List Value:=ps.flatMap fun p=>[.bool (ngB p.1),p.2]
theorem qL9:∀ (ps:List (Int × Value)) (i:Nat) (p:Int × Value),ps[i]?=some p->(zF2 ps)[i*2]?=some (.bool (ngB p.1))/\(zF2 ps)[i*2+1]?=some p.2
  | [],i,p,h=>by simp at h
  | q :: ps, 0, p, h => by
    obtain rfl:q=p:=by simpa using h
    exact ⟨rfl,rfl⟩
  | q :: ps, i + 1, p, h => by
    have ih:=qL9 ps i p (by simpa using h);have e:zF2 (q :: ps)=.bool (ngB q.1) :: q.2 :: zF2 ps:=rfl;rw [e,show (i+1)*2=i*2+1+1 from by omega];simpa using ih
theorem info_int:∃ i,prog.info? 42=some i/\i.zero=some (.agg #[.bool false,.slice none 0 0])/\i.size=2/\i.bytes=32:=info_parts (P:=prog) (e:=42) (z:=.agg #[.bool false,.slice none 0 0]) (size:=2) (bytes:=32) (by kernel_rfl)
theorem Blk.other {w w':World} {g:Nat} {t:TypeId} {cs:Array Value} {row:Option Nat} (h:Blk w g t cs) (hg:w.grownBy w' row) (hne:row≠some g):Blk w' g t cs:=(hg.block g h.lt (fun e=>hne e.symm)).trans h
theorem qM {x:Nat} (h:x<=9223372036854775808):(digs 4294967296 x).length<=2:=zG7 (by omega) (Nat.lt_of_le_of_lt h (by decide))
end whl
namespace rat
open Go.RowKit num mem nat txt str flow whl
def psn (k:IntKind) (l:List Nat):Pd:=⟨fun w v=>IsS w k v l,fun h hb=>h.bQ hb⟩
theorem IsQ.drew {w:World} {v:Value} {q:Rat} (h:IsQ w v q):IsQ w.drew v q:=by
 obtain ⟨u,t,e,h1,h2⟩:=h;exact ⟨u,t,e,h1.drew,h2.drew⟩
theorem qT7 (a0:Value) (z:Int) (a1:Value) (d:Nat) (w:World) (h0:IsR w a0 z) (h1:IsS w .i64 a1 (digs 10000 d)) (hd:d≠0) (hl:zC2 z<=30000) (hl2:(digs 4294967296 d).length<=30000) :
    Calls prog 39 #[a0,a1] w (zZ5 (mkRat z d) w):=by
  have HL:Hid ((digs 10000 z.natAbs).length<=100000):=zB4 (yF z) (by omega);have HL2:Hid ((digs 10000 d).length<=100000):=zB4 (qR9 d) (by omega);obtain ⟨G,hG⟩:∃ G,G=Nat.gcd z.natAbs d:=⟨_,rfl⟩;obtain ⟨X,hX⟩:∃ X,X=z.natAbs / G:=⟨_,rfl⟩;obtain ⟨Y,hY⟩:∃ Y,Y=d / G:=⟨_,rfl⟩;have hGp:0<G:=by rw [hG];exact Nat.gcd_pos_of_pos_right _ (by omega)
  have HGl:Hid ((digs 10000 G).length<=100000):=zB4 (zG1 (by omega) (by rw [hG];exact Nat.le_of_dvd (by omega) (Nat.gcd_dvd_right _ _))) HL2.out;have HQN:Hid ((mkRat z d).num.natAbs=X):=by show _=_;rw [hX,hG];exact yF1 z hd
  have HQD:Hid ((mkRat z d).den=Y):=by show _=_;rw [hY,hG];exact zW2 z hd
  have HQS:=hQ9 (mk_neg z hd);have HXp:z<0->0<X:=by intro hz;rw [hX];exact Nat.div_pos (Nat.le_of_dvd (by omega) (by rw [hG];exact Nat.gcd_dvd_left _ _)) hGp
  have HG:=hQ9 hG.symm;have HX:=hQ9 hX.symm;have HY:=hQ9 hY.symm;clear hG hX hY;rcases hs0:ngB z with _ | _
  · obtain ⟨u0, rfl, s0⟩ := h0;obtain ⟨A0,c0,rfl,_⟩:=id s0;have s1:=h1;obtain ⟨A1,c1,rfl,_⟩:=id s1
    go_enter func39,ntmps39
    go_upto_region 1 with (fail)
    obtain ⟨wx,hwx,bb,B0,BR0,hsz⟩:=zK3 w 52 54 #[.bool false,.slice A0 (digs 10000 (z).natAbs).length c0] #[.bool false,.slice none 0 0,.slice none 0 0];rw [hwx];clear hwx;have k0s:=s0.bQ bb;have k0:IsR wx (.agg #[.bool false,.slice A0 (digs 10000 (z).natAbs).length c0]) (z):=zZ2 k0s rfl hs0.symm;have k1:=s1.bQ bb;have hsz0:=bb.size;have sB:=bb.size;refine zC6 5 [Pd.eq (.pointer (some ⟨w.heap.size,1,none⟩)),Pd.eq (.slice A0 (digs 10000 (z).natAbs).length c0),Pd.eq (.slice A1 (digs 10000 d).length c1),psn .i64 (digs 10000 G),psn .i64 (digs 10000 G)] (by kernel_rfl) ?ob1 ?done1
    case ob1 =>
      refine zA (zC4 rfl (zB5 rfl) (zB7 rfl rfl) (fun _=>by kernel_rfl) (fun _=>rfl)) ?_;refine zA (zC1 rfl (zB5 rfl) (zB6 (j:=0) (by kernel_rfl) rfl rfl) (fun w2 hb=>zD underlying50 rfl ((B0.bQ hb).cell 1)) (fun _ _=>rfl)) ?_;refine zA (zC0 rfl (zB5 rfl) (zB7 rfl rfl) (fun _ _ h=>h)) ?_;refine zA (zD8 rfl func72 (by kernel_rfl) (zB5 rfl) (zB6 (j:=1) (by kernel_rfl) rfl rfl) (zB6 (j:=2) (by kernel_rfl) rfl rfl) (fun w2 u0 u1 hb h0 h1=>by obtain rfl:=h0;obtain rfl:=h1;exact (HG.out ▸ yG2 _ _ _ _ _ (k0s.bQ hb) (k1.bQ hb) HL.out HL2.out).mono fun e w3 h=>h)) ?_;refine zA (zE0 rfl (zB5 rfl) (zB6 (j:=3) (by kernel_rfl) rfl rfl) (fun _ _ h=>h)) ?_
      trivial
    case done1 =>
      refine fun w11 hb11 v0 h0 v1 h1 v2 h2 v3 h3 v4 h4 b hbf => ?_;obtain rfl:=h0;obtain rfl:=h1;obtain rfl:=h2;have q3:=h3;have q4:=h4;simp only [Act.put,zA0,zA2,zA1] at hbf;subst hbf;replace B0:=B0.bQ hb11;replace k0s:=k0s.bQ hb11;replace k0:=k0.bQ hb11;replace BR0:=BR0.bQ hb11;replace k1:=k1.bQ hb11;replace bb:=bb.trans (hb11.mono bb.size);have hsz11:=bb.size;refine zC7 ?_;obtain ⟨A5,c5,rfl,_⟩:=id q4;have kg:=q4;have sB:=bb.size;go_upto_region 2 with (fail);refine zC6 9 [Pd.eq (.pointer (some ⟨w.heap.size,1,none⟩)),Pd.eq (.slice A0 (digs 10000 (z).natAbs).length c0),Pd.eq (.slice A5 (digs 10000 G).length c5),pt2 .i64 (digs 10000 X) (digs 10000 (z.natAbs % G)) w11.heap.size,pt2 .i64 (digs 10000 X) (digs 10000 (z.natAbs % G)) w11.heap.size,ps .i64 (digs 10000 X) w11.heap.size,ps .i64 (digs 10000 (z.natAbs % G)) w11.heap.size,ps .i64 (digs 10000 X) w11.heap.size,ps .i64 (digs 10000 (z.natAbs % G)) w11.heap.size] (by kernel_rfl) ?ob2 ?done2
      case ob2 =>
        refine zA (zC4 rfl (zB5 rfl) (zB7 rfl rfl) (fun _=>by kernel_rfl) (fun _=>rfl)) ?_;refine zA (zC1 rfl (zB5 rfl) (zB6 (j:=0) (by kernel_rfl) rfl rfl) (fun w2 hb=>zD underlying50 rfl ((B0.bQ hb).cell 1)) (fun _ _=>rfl)) ?_;refine zA (zC0 rfl (zB5 rfl) (zB7 rfl rfl) (fun _ _ h=>h)) ?_;refine zA (zD8 rfl func73 (by kernel_rfl) (zB5 rfl) (zB6 (j:=1) (by kernel_rfl) rfl rfl) (zB6 (j:=2) (by kernel_rfl) rfl rfl) (fun w2 u0 u1 hb h0 h1=>by obtain rfl:=h0;obtain rfl:=h1;exact (HX.out ▸ qE5 _ _ z.natAbs G _ (k0s.bQ hb) (kg.bQ hb) HL.out HGl.out hGp).mono fun e w3 h=>zU1.pd h hb.size)) ?_;refine zA (zC0 rfl (zB5 rfl) (zB6 (j:=3) (by kernel_rfl) rfl rfl) (fun _ _ h=>h)) ?_;refine zA (zF9 rfl (zB5 rfl) (zB6 (j:=4) (by kernel_rfl) rfl rfl) (fun w2 u hu=>by obtain ⟨v,u,rfl,q1,q2,q3,q4⟩:=hu;exact ⟨v,rfl,q1,q3⟩)) ?_;refine zA (zF9 rfl (zB5 rfl) (zB6 (j:=4) (by kernel_rfl) rfl rfl) (fun w2 u hu=>by obtain ⟨v,u,rfl,q1,q2,q3,q4⟩:=hu;exact ⟨u,rfl,q2,q4⟩)) ?_;refine zA (zE0 rfl (zB5 rfl) (zB6 (j:=5) (by kernel_rfl) rfl rfl) (fun _ _ h=>h)) ?_;refine zA (zE0 rfl (zB5 rfl) (zB6 (j:=6) (by kernel_rfl) rfl rfl) (fun _ _ h=>h)) ?_
        trivial
      case done2 =>
        refine fun w12 hb12 v0 h0 v1 h1 v2 h2 v3 h3 v4 h4 v5 h5 v6 h6 v7 h7 v8 h8 b hbf => ?_;obtain rfl:=h0;obtain rfl:=h1;obtain rfl:=h2;clear h3;clear h4;obtain ⟨q5,f5⟩:=h5;obtain ⟨q6,f6⟩:=h6;obtain ⟨q7,f7⟩:=h7;obtain ⟨q8,f8⟩:=h8;simp only [Act.put,zA0,zA2,zA1] at hbf;subst hbf;replace B0:=B0.bQ hb12;replace k0s:=k0s.bQ hb12;replace k0:=k0.bQ hb12;replace BR0:=BR0.bQ hb12;replace k1:=k1.bQ hb12;replace kg:=kg.bQ hb12;replace bb:=bb.trans (hb12.mono bb.size);have hsz12:=bb.size;have s_5:=sB;have s_6:=sB;have s_7:=sB;have s_8:=sB;refine zC7 ?_;obtain ⟨A6,c6,rfl,_⟩:=id q7;have kx:=q7;have kxf:=f7;have kxz_:=s_7;have sB:=bb.size;go_upto_region 3 with (fail);refine zC6 8 [Pd.eq (.slice A1 (digs 10000 d).length c1),Pd.eq (.slice A5 (digs 10000 G).length c5),pt2 .i64 (digs 10000 Y) (digs 10000 (d % G)) w12.heap.size,pt2 .i64 (digs 10000 Y) (digs 10000 (d % G)) w12.heap.size,ps .i64 (digs 10000 Y) w12.heap.size,ps .i64 (digs 10000 (d % G)) w12.heap.size,ps .i64 (digs 10000 Y) w12.heap.size,ps .i64 (digs 10000 (d % G)) w12.heap.size] (by kernel_rfl) ?ob3 ?done3
        case ob3 =>
          refine zA (zC0 rfl (zB5 rfl) (zB7 rfl rfl) (fun _ _ h=>h)) ?_;refine zA (zC0 rfl (zB5 rfl) (zB7 rfl rfl) (fun _ _ h=>h)) ?_;refine zA (zD8 rfl func73 (by kernel_rfl) (zB5 rfl) (zB6 (j:=0) (by kernel_rfl) rfl rfl) (zB6 (j:=1) (by kernel_rfl) rfl rfl) (fun w2 u0 u1 hb h0 h1=>by obtain rfl:=h0;obtain rfl:=h1;exact (HY.out ▸ qE5 _ _ d G _ (k1.bQ hb) (kg.bQ hb) HL2.out HGl.out hGp).mono fun e w3 h=>zU1.pd h hb.size)) ?_;refine zA (zC0 rfl (zB5 rfl) (zB6 (j:=2) (by kernel_rfl) rfl rfl) (fun _ _ h=>h)) ?_;refine zA (zF9 rfl (zB5 rfl) (zB6 (j:=3) (by kernel_rfl) rfl rfl) (fun w2 u hu=>by obtain ⟨v,u,rfl,q1,q2,q3,q4⟩:=hu;exact ⟨v,rfl,q1,q3⟩)) ?_;refine zA (zF9 rfl (zB5 rfl) (zB6 (j:=3) (by kernel_rfl) rfl rfl) (fun w2 u hu=>by obtain ⟨v,u,rfl,q1,q2,q3,q4⟩:=hu;exact ⟨u,rfl,q2,q4⟩)) ?_;refine zA (zE0 rfl (zB5 rfl) (zB6 (j:=4) (by kernel_rfl) rfl rfl) (fun _ _ h=>h)) ?_;refine zA (zE0 rfl (zB5 rfl) (zB6 (j:=5) (by kernel_rfl) rfl rfl) (fun _ _ h=>h)) ?_
          trivial
        case done3 =>
          refine fun w13 hb13 v0 h0 v1 h1 v2 h2 v3 h3 v4 h4 v5 h5 v6 h6 v7 h7 b hbf => ?_;obtain rfl:=h0;obtain rfl:=h1;clear h2;clear h3;obtain ⟨q4,f4⟩:=h4;obtain ⟨q5,f5⟩:=h5;obtain ⟨q6,f6⟩:=h6;obtain ⟨q7,f7⟩:=h7;simp only [Act.put,zA0,zA2,zA1] at hbf;subst hbf;replace B0:=B0.bQ hb13;replace k0s:=k0s.bQ hb13;replace k0:=k0.bQ hb13;replace BR0:=BR0.bQ hb13;replace k1:=k1.bQ hb13;replace kg:=kg.bQ hb13;replace kx:=kx.bQ hb13;replace bb:=bb.trans (hb13.mono bb.size);have hsz13:=bb.size;have s_4:=sB;have s_5:=sB;have s_6:=sB;have s_7:=sB;refine zC7 ?_;obtain ⟨A8,c8,rfl,_⟩:=id q6;have ky:=q6;have kyf:=f6;have kyz_:=s_6;have sB:=bb.size;go_upto_region 4 with (fail);refine zC6 11 [Pd.eq (.pointer (some ⟨w.heap.size,0,none⟩)),Pd.eq (.bool false),Pd.eq (.bool false),Pd.any,Pd.any,Pd.any,Pd.eq (.bool false),Pd.eq (.slice A6 (digs 10000 X).length c6),Pd.eq (.agg #[.bool false,.slice A6 (digs 10000 X).length c6]),Pd.eq (.slice A8 (digs 10000 Y).length c8),Pd.eq (.agg #[.bool false,.slice A6 (digs 10000 X).length c6,.slice A8 (digs 10000 Y).length c8])] (by kernel_rfl) ?ob4 ?done4
          case ob4 =>
            refine zA (zC4 rfl (zB5 rfl) (zB7 rfl rfl) (fun _=>by kernel_rfl) (fun _=>rfl)) ?_;refine zA (zC1 rfl (zB5 rfl) (zB6 (j:=0) (by kernel_rfl) rfl rfl) (fun w2 hb=>zD underlying4 rfl ((B0.bQ hb).cell 0)) (fun _ _=>rfl)) ?_;refine zA (zC0 rfl (zB5 rfl) (zB6 (j:=1) (by kernel_rfl) rfl rfl) (fun _ _ h=>h)) ?_;refine zA (zK2 (zE3 (c:=false) (b:=true) (g:=2) rfl (by kernel_rfl) rfl rfl rfl (by exact fun _ _ h=>h)) (fun _=>trivial) rfl) ?_;refine zA (zK2 (zE3 (c:=false) (b:=true) (g:=2) rfl (by kernel_rfl) rfl rfl rfl (by exact fun _ _ h=>h)) (fun _=>trivial) rfl) ?_;refine zA (zK2 (zE3 (c:=false) (b:=true) (g:=2) rfl (by kernel_rfl) rfl rfl rfl (by exact fun _ _ h=>h)) (fun _=>trivial) rfl) ?_;refine zA (zO6 (b:=false) rfl (zB5 rfl) (zB6 (j:=2) (by kernel_rfl) rfl rfl) (zG2 _) (fun _ _ h=>h)) ?_;refine zA (zC0 rfl (zB5 rfl) (zB7 rfl rfl) (fun _ _ h=>h)) ?_;refine zA (zM5 rfl (zB5 rfl) (zB6 (j:=6) (by kernel_rfl) rfl rfl) (zB6 (j:=7) (by kernel_rfl) rfl rfl) (fun w2 u v hb hu hv=>by obtain rfl:=hu;obtain rfl:=hv;exact ⟨.agg #[.bool false,.slice A6 (digs 10000 X).length c6],by kernel_rfl,rfl⟩)) ?_;refine zA (zC0 rfl (zB5 rfl) (zB7 rfl rfl) (fun _ _ h=>h)) ?_;refine zA (zM5 rfl (zB5 rfl) (zB6 (j:=8) (by kernel_rfl) rfl rfl) (zB6 (j:=9) (by kernel_rfl) rfl rfl) (fun w2 u v hb hu hv=>by obtain rfl:=hu;obtain rfl:=hv;exact ⟨.agg #[.bool false,.slice A6 (digs 10000 X).length c6,.slice A8 (digs 10000 Y).length c8],by kernel_rfl,rfl⟩)) ?_
            trivial
          case done4 =>
            refine fun w14 hb14 v0 h0 v1 h1 v2 h2 v3 h3 v4 h4 v5 h5 v6 h6 v7 h7 v8 h8 v9 h9 v10 h10 b hbf => ?_;obtain rfl:=h0;obtain rfl:=h1;obtain rfl:=h2;obtain rfl:=h6;obtain rfl:=h7;obtain rfl:=h8;obtain rfl:=h9;obtain rfl:=h10;clear h3;clear h4;clear h5;simp only [Act.put,zA0,zA2,zA1] at hbf;subst hbf;replace B0:=B0.bQ hb14;replace k0s:=k0s.bQ hb14;replace k0:=k0.bQ hb14;replace BR0:=BR0.bQ hb14;replace k1:=k1.bQ hb14;replace kg:=kg.bQ hb14;replace kx:=kx.bQ hb14;replace ky:=ky.bQ hb14;replace bb:=bb.trans (hb14.mono bb.size);have hsz14:=bb.size;refine zG5 (i:=11) rfl rfl rfl rfl rfl rfl (cells:=[.bool false,.slice A6 (digs 10000 X).length c6,.slice A8 (digs 10000 Y).length c8]) rfl BR0 rfl (by kernel_rfl) (zH2 rfl rfl rfl) fun w9 hg9 B9 => ?_;have k9:=off kx BR0 zD3 hg9;have d9:=off ky BR0 zD3 hg9;have bb9:=bb.trans ((Below.refl _ _).grown hg9 bb.size (fun g hg=>by injection hg with hg;omega));obtain ⟨C0,C1,C2,_,_,_⟩:=three B9;refine zC7 ?_;go_wp2;exact bodyPost_ret (v:=.agg #[.bool false,.slice A6 (digs 10000 X).length c6,.slice A8 (digs 10000 Y).length c8]) (by simp [results,results39,go_sem,C0,C1,C2]) rfl ⟨_,rfl,yF4 k9 d9 (by rw [HQS.out,hs0]) HQN.out HQD.out,zM4 (kxf.mono kxz_) (kyf.mono kyz_),bb9⟩
  · obtain ⟨u0, rfl, s0⟩ := h0;obtain ⟨A0,c0,rfl,_⟩:=id s0;have s1:=h1;obtain ⟨A1,c1,rfl,_⟩:=id s1
    go_enter func39,ntmps39
    go_upto_region 1 with (fail)
    obtain ⟨wx,hwx,bb,B0,BR0,hsz⟩:=zK3 w 52 54 #[.bool true,.slice A0 (digs 10000 (z).natAbs).length c0] #[.bool false,.slice none 0 0,.slice none 0 0];rw [hwx];clear hwx;have k0s:=s0.bQ bb;have k0:IsR wx (.agg #[.bool true,.slice A0 (digs 10000 (z).natAbs).length c0]) (z):=zZ2 k0s rfl hs0.symm;have k1:=s1.bQ bb;have hsz0:=bb.size;have sB:=bb.size;refine zC6 5 [Pd.eq (.pointer (some ⟨w.heap.size,1,none⟩)),Pd.eq (.slice A0 (digs 10000 (z).natAbs).length c0),Pd.eq (.slice A1 (digs 10000 d).length c1),psn .i64 (digs 10000 G),psn .i64 (digs 10000 G)] (by kernel_rfl) ?ob5 ?done5
    case ob5 =>
      refine zA (zC4 rfl (zB5 rfl) (zB7 rfl rfl) (fun _=>by kernel_rfl) (fun _=>rfl)) ?_;refine zA (zC1 rfl (zB5 rfl) (zB6 (j:=0) (by kernel_rfl) rfl rfl) (fun w2 hb=>zD underlying50 rfl ((B0.bQ hb).cell 1)) (fun _ _=>rfl)) ?_;refine zA (zC0 rfl (zB5 rfl) (zB7 rfl rfl) (fun _ _ h=>h)) ?_;refine zA (zD8 rfl func72 (by kernel_rfl) (zB5 rfl) (zB6 (j:=1) (by kernel_rfl) rfl rfl) (zB6 (j:=2) (by kernel_rfl) rfl rfl) (fun w2 u0 u1 hb h0 h1=>by obtain rfl:=h0;obtain rfl:=h1;exact (HG.out ▸ yG2 _ _ _ _ _ (k0s.bQ hb) (k1.bQ hb) HL.out HL2.out).mono fun e w3 h=>h)) ?_;refine zA (zE0 rfl (zB5 rfl) (zB6 (j:=3) (by kernel_rfl) rfl rfl) (fun _ _ h=>h)) ?_
      trivial
    case done5 =>
      refine fun w11 hb11 v0 h0 v1 h1 v2 h2 v3 h3 v4 h4 b hbf => ?_;obtain rfl:=h0;obtain rfl:=h1;obtain rfl:=h2;have q3:=h3;have q4:=h4;simp only [Act.put,zA0,zA2,zA1] at hbf;subst hbf;replace B0:=B0.bQ hb11;replace k0s:=k0s.bQ hb11;replace k0:=k0.bQ hb11;replace BR0:=BR0.bQ hb11;replace k1:=k1.bQ hb11;replace bb:=bb.trans (hb11.mono bb.size);have hsz11:=bb.size;refine zC7 ?_;obtain ⟨A5,c5,rfl,_⟩:=id q4;have kg:=q4;have sB:=bb.size;go_upto_region 2 with (fail);refine zC6 9 [Pd.eq (.pointer (some ⟨w.heap.size,1,none⟩)),Pd.eq (.slice A0 (digs 10000 (z).natAbs).length c0),Pd.eq (.slice A5 (digs 10000 G).length c5),pt2 .i64 (digs 10000 X) (digs 10000 (z.natAbs % G)) w11.heap.size,pt2 .i64 (digs 10000 X) (digs 10000 (z.natAbs % G)) w11.heap.size,ps .i64 (digs 10000 X) w11.heap.size,ps .i64 (digs 10000 (z.natAbs % G)) w11.heap.size,ps .i64 (digs 10000 X) w11.heap.size,ps .i64 (digs 10000 (z.natAbs % G)) w11.heap.size] (by kernel_rfl) ?ob6 ?done6
      case ob6 =>
        refine zA (zC4 rfl (zB5 rfl) (zB7 rfl rfl) (fun _=>by kernel_rfl) (fun _=>rfl)) ?_;refine zA (zC1 rfl (zB5 rfl) (zB6 (j:=0) (by kernel_rfl) rfl rfl) (fun w2 hb=>zD underlying50 rfl ((B0.bQ hb).cell 1)) (fun _ _=>rfl)) ?_;refine zA (zC0 rfl (zB5 rfl) (zB7 rfl rfl) (fun _ _ h=>h)) ?_;refine zA (zD8 rfl func73 (by kernel_rfl) (zB5 rfl) (zB6 (j:=1) (by kernel_rfl) rfl rfl) (zB6 (j:=2) (by kernel_rfl) rfl rfl) (fun w2 u0 u1 hb h0 h1=>by obtain rfl:=h0;obtain rfl:=h1;exact (HX.out ▸ qE5 _ _ z.natAbs G _ (k0s.bQ hb) (kg.bQ hb) HL.out HGl.out hGp).mono fun e w3 h=>zU1.pd h hb.size)) ?_;refine zA (zC0 rfl (zB5 rfl) (zB6 (j:=3) (by kernel_rfl) rfl rfl) (fun _ _ h=>h)) ?_;refine zA (zF9 rfl (zB5 rfl) (zB6 (j:=4) (by kernel_rfl) rfl rfl) (fun w2 u hu=>by obtain ⟨v,u,rfl,q1,q2,q3,q4⟩:=hu;exact ⟨v,rfl,q1,q3⟩)) ?_;refine zA (zF9 rfl (zB5 rfl) (zB6 (j:=4) (by kernel_rfl) rfl rfl) (fun w2 u hu=>by obtain ⟨v,u,rfl,q1,q2,q3,q4⟩:=hu;exact ⟨u,rfl,q2,q4⟩)) ?_;refine zA (zE0 rfl (zB5 rfl) (zB6 (j:=5) (by kernel_rfl) rfl rfl) (fun _ _ h=>h)) ?_;refine zA (zE0 rfl (zB5 rfl) (zB6 (j:=6) (by kernel_rfl) rfl rfl) (fun _ _ h=>h)) ?_
        trivial
      case done6 =>
        refine fun w12 hb12 v0 h0 v1 h1 v2 h2 v3 h3 v4 h4 v5 h5 v6 h6 v7 h7 v8 h8 b hbf => ?_;obtain rfl:=h0;obtain rfl:=h1;obtain rfl:=h2;clear h3;clear h4;obtain ⟨q5,f5⟩:=h5;obtain ⟨q6,f6⟩:=h6;obtain ⟨q7,f7⟩:=h7;obtain ⟨q8,f8⟩:=h8;simp only [Act.put,zA0,zA2,zA1] at hbf;subst hbf;replace B0:=B0.bQ hb12;replace k0s:=k0s.bQ hb12;replace k0:=k0.bQ hb12;replace BR0:=BR0.bQ hb12;replace k1:=k1.bQ hb12;replace kg:=kg.bQ hb12;replace bb:=bb.trans (hb12.mono bb.size);have hsz12:=bb.size;have s_5:=sB;have s_6:=sB;have s_7:=sB;have s_8:=sB;refine zC7 ?_;obtain ⟨A6,c6,rfl,_⟩:=id q7;have kx:=q7;have kxf:=f7;have kxz_:=s_7;have sB:=bb.size;go_upto_region 3 with (fail);refine zC6 8 [Pd.eq (.slice A1 (digs 10000 d).length c1),Pd.eq (.slice A5 (digs 10000 G).length c5),pt2 .i64 (digs 10000 Y) (digs 10000 (d % G)) w12.heap.size,pt2 .i64 (digs 10000 Y) (digs 10000 (d % G)) w12.heap.size,ps .i64 (digs 10000 Y) w12.heap.size,ps .i64 (digs 10000 (d % G)) w12.heap.size,ps .i64 (digs 10000 Y) w12.heap.size,ps .i64 (digs 10000 (d % G)) w12.heap.size] (by kernel_rfl) ?ob7 ?done7
        case ob7 =>
          refine zA (zC0 rfl (zB5 rfl) (zB7 rfl rfl) (fun _ _ h=>h)) ?_;refine zA (zC0 rfl (zB5 rfl) (zB7 rfl rfl) (fun _ _ h=>h)) ?_;refine zA (zD8 rfl func73 (by kernel_rfl) (zB5 rfl) (zB6 (j:=0) (by kernel_rfl) rfl rfl) (zB6 (j:=1) (by kernel_rfl) rfl rfl) (fun w2 u0 u1 hb h0 h1=>by obtain rfl:=h0;obtain rfl:=h1;exact (HY.out ▸ qE5 _ _ d G _ (k1.bQ hb) (kg.bQ hb) HL2.out HGl.out hGp).mono fun e w3 h=>zU1.pd h hb.size)) ?_;refine zA (zC0 rfl (zB5 rfl) (zB6 (j:=2) (by kernel_rfl) rfl rfl) (fun _ _ h=>h)) ?_;refine zA (zF9 rfl (zB5 rfl) (zB6 (j:=3) (by kernel_rfl) rfl rfl) (fun w2 u hu=>by obtain ⟨v,u,rfl,q1,q2,q3,q4⟩:=hu;exact ⟨v,rfl,q1,q3⟩)) ?_;refine zA (zF9 rfl (zB5 rfl) (zB6 (j:=3) (by kernel_rfl) rfl rfl) (fun w2 u hu=>by obtain ⟨v,u,rfl,q1,q2,q3,q4⟩:=hu;exact ⟨u,rfl,q2,q4⟩)) ?_;refine zA (zE0 rfl (zB5 rfl) (zB6 (j:=4) (by kernel_rfl) rfl rfl) (fun _ _ h=>h)) ?_;refine zA (zE0 rfl (zB5 rfl) (zB6 (j:=5) (by kernel_rfl) rfl rfl) (fun _ _ h=>h)) ?_
          trivial
        case done7 =>
          refine fun w13 hb13 v0 h0 v1 h1 v2 h2 v3 h3 v4 h4 v5 h5 v6 h6 v7 h7 b hbf => ?_;obtain rfl:=h0;obtain rfl:=h1;clear h2;clear h3;obtain ⟨q4,f4⟩:=h4;obtain ⟨q5,f5⟩:=h5;obtain ⟨q6,f6⟩:=h6;obtain ⟨q7,f7⟩:=h7;simp only [Act.put,zA0,zA2,zA1] at hbf;subst hbf;replace B0:=B0.bQ hb13;replace k0s:=k0s.bQ hb13;replace k0:=k0.bQ hb13;replace BR0:=BR0.bQ hb13;replace k1:=k1.bQ hb13;replace kg:=kg.bQ hb13;replace kx:=kx.bQ hb13;replace bb:=bb.trans (hb13.mono bb.size);have hsz13:=bb.size;have s_4:=sB;have s_5:=sB;have s_6:=sB;have s_7:=sB;refine zC7 ?_;obtain ⟨A8,c8,rfl,_⟩:=id q6;have ky:=q6;have kyf:=f6;have kyz_:=s_6;have HXl:Hid (decide ((0:Int)<(((digs 10000 X).length:Nat):Int))=true):=by show _=_;have:=(qA8 (B:=10000) (by omega) (x:=X)).1;have:=HXp (zW0 hs0);exact decide_eq_true (by omega)
          have sB:=bb.size;go_upto_region 4 with (fail);refine zC6 11 [Pd.eq (.pointer (some ⟨w.heap.size,0,none⟩)),Pd.eq (.bool true),Pd.eq (.bool true),Pd.eq (.slice A6 (digs 10000 X).length c6),Pd.eq (.int .i64 (((digs 10000 X).length:Nat):Int)),Pd.eq (.bool true),Pd.eq (.bool true),Pd.eq (.slice A6 (digs 10000 X).length c6),Pd.eq (.agg #[.bool true,.slice A6 (digs 10000 X).length c6]),Pd.eq (.slice A8 (digs 10000 Y).length c8),Pd.eq (.agg #[.bool true,.slice A6 (digs 10000 X).length c6,.slice A8 (digs 10000 Y).length c8])] (by kernel_rfl) ?ob8 ?done8
          case ob8 =>
            refine zA (zC4 rfl (zB5 rfl) (zB7 rfl rfl) (fun _=>by kernel_rfl) (fun _=>rfl)) ?_;refine zA (zC1 rfl (zB5 rfl) (zB6 (j:=0) (by kernel_rfl) rfl rfl) (fun w2 hb=>zD underlying4 rfl ((B0.bQ hb).cell 0)) (fun _ _=>rfl)) ?_;refine zA (zC0 rfl (zB5 rfl) (zB6 (j:=1) (by kernel_rfl) rfl rfl) (fun _ _ h=>h)) ?_;refine zA (zC0 rfl (zE3 (c:=true) (b:=true) (g:=2) rfl (by kernel_rfl) rfl rfl rfl (by exact fun _ _ h=>h)) (zB7 rfl rfl) (fun _ _ h=>h)) ?_;refine zA (zK7 rfl (zE3 (c:=true) (b:=true) (g:=2) rfl (by kernel_rfl) rfl rfl rfl (by exact fun _ _ h=>h)) (zB6 (j:=3) (by kernel_rfl) rfl rfl) (fun _ _ hx=>⟨_,by rw [hx];exact zK8 underlying50 _ _ _ _,rfl⟩)) ?_;refine zA (zG3 rfl (zE3 (c:=true) (b:=true) (g:=2) rfl (by kernel_rfl) rfl rfl rfl (by exact fun _ _ h=>h)) (zB6 (j:=4) (by kernel_rfl) rfl rfl) (zG2 _) (fun _ _ _ hx hy=>⟨.bool true,by rw [hx,hy,yE6,HXl.out],rfl⟩)) ?_;refine zA (zO6 (b:=true) rfl (zB5 rfl) (zB6 (j:=2) (by kernel_rfl) rfl rfl) (zB6 (j:=5) (by kernel_rfl) rfl rfl) (fun _ _ h=>h)) ?_;refine zA (zC0 rfl (zB5 rfl) (zB7 rfl rfl) (fun _ _ h=>h)) ?_;refine zA (zM5 rfl (zB5 rfl) (zB6 (j:=6) (by kernel_rfl) rfl rfl) (zB6 (j:=7) (by kernel_rfl) rfl rfl) (fun w2 u v hb hu hv=>by obtain rfl:=hu;obtain rfl:=hv;exact ⟨.agg #[.bool true,.slice A6 (digs 10000 X).length c6],by kernel_rfl,rfl⟩)) ?_;refine zA (zC0 rfl (zB5 rfl) (zB7 rfl rfl) (fun _ _ h=>h)) ?_;refine zA (zM5 rfl (zB5 rfl) (zB6 (j:=8) (by kernel_rfl) rfl rfl) (zB6 (j:=9) (by kernel_rfl) rfl rfl) (fun w2 u v hb hu hv=>by obtain rfl:=hu;obtain rfl:=hv;exact ⟨.agg #[.bool true,.slice A6 (digs 10000 X).length c6,.slice A8 (digs 10000 Y).length c8],by kernel_rfl,rfl⟩)) ?_
            trivial
          case done8 =>
            refine fun w14 hb14 v0 h0 v1 h1 v2 h2 v3 h3 v4 h4 v5 h5 v6 h6 v7 h7 v8 h8 v9 h9 v10 h10 b hbf => ?_;obtain rfl:=h0;obtain rfl:=h1;obtain rfl:=h2;obtain rfl:=h3;obtain rfl:=h4;obtain rfl:=h5;obtain rfl:=h6;obtain rfl:=h7;obtain rfl:=h8;obtain rfl:=h9;obtain rfl:=h10;simp only [Act.put,zA0,zA2,zA1] at hbf;subst hbf;replace B0:=B0.bQ hb14;replace k0s:=k0s.bQ hb14;replace k0:=k0.bQ hb14;replace BR0:=BR0.bQ hb14;replace k1:=k1.bQ hb14;replace kg:=kg.bQ hb14;replace kx:=kx.bQ hb14;replace ky:=ky.bQ hb14;replace bb:=bb.trans (hb14.mono bb.size);have hsz14:=bb.size;refine zG5 (i:=11) rfl rfl rfl rfl rfl rfl (cells:=[.bool true,.slice A6 (digs 10000 X).length c6,.slice A8 (digs 10000 Y).length c8]) rfl BR0 rfl (by kernel_rfl) (zH2 rfl rfl rfl) fun w9 hg9 B9 => ?_;have k9:=off kx BR0 zD3 hg9;have d9:=off ky BR0 zD3 hg9;have bb9:=bb.trans ((Below.refl _ _).grown hg9 bb.size (fun g hg=>by injection hg with hg;omega));obtain ⟨C0,C1,C2,_,_,_⟩:=three B9;refine zC7 ?_;go_wp2;exact bodyPost_ret (v:=.agg #[.bool true,.slice A6 (digs 10000 X).length c6,.slice A8 (digs 10000 Y).length c8]) (by simp [results,results39,go_sem,C0,C1,C2]) rfl ⟨_,rfl,yF4 k9 d9 (by rw [HQS.out,hs0]) HQN.out HQD.out,zM4 (kxf.mono kxz_) (kyf.mono kyz_),bb9⟩
theorem yG9 (a0:Value) (q:Rat) (w:World) (h0:IsP w a0 q) (hl:zC3 q 30000) :
  Calls prog 104 #[a0] w (RetQ q w):=by
 obtain ⟨u0,t0,rfl,s0,r0⟩:=h0;obtain ⟨A0,c0,rfl,_⟩:=id s0;obtain ⟨D0,e0,rfl,_⟩:=id r0
 go_enter func104,ntmps104
 go_upto_region 1 with (fail)
 obtain ⟨wx,hwx,bb,B0,BR0,hsz⟩:=zK3 w 54 44 #[.bool (ngB (q).num),.slice A0 (digs 10000 (q).num.natAbs).length c0,.slice D0 (digs 10000 (q).den).length e0] #[.bool false,.slice none 0 0,.slice none 0 0];rw [hwx];clear hwx;have k0s:=s0.bQ bb;have k0d:=r0.bQ bb;have k0z:IsR wx (.agg #[.bool (ngB (q).num),.slice A0 (digs 10000 (q).num.natAbs).length c0]) (q).num:=⟨_,rfl,k0s⟩;have k0:IsP wx (.agg #[.bool (ngB (q).num),.slice A0 (digs 10000 (q).num.natAbs).length c0,.slice D0 (digs 10000 (q).den).length e0]) (q):=⟨_,_,rfl,k0s,k0d⟩;have hsz0:=bb.size;have sB:=bb.size;refine flow 7 [Pd.eq (.pointer (some ⟨w.heap.size,0,none⟩)),Pd.eq (.agg #[.bool (ngB (q).num),.slice A0 (digs 10000 (q).num.natAbs).length c0]),pz ((q).num) wx.heap.size,Pd.eq (.pointer (some ⟨w.heap.size,2,none⟩)),Pd.eq (.slice D0 (digs 10000 (q).den).length e0),ps .u64 (digs 4294967296 (q).den) wx.heap.size,pq (q) wx.heap.size] (by kernel_rfl) (by kernel_rfl) ?ob10 ?done10
 case ob10 =>
  refine zA (zC4 rfl (zB5 rfl) (zB7 rfl rfl) (fun _=>by kernel_rfl) (fun _=>rfl)) ?_;refine zA (zC1 rfl (zB5 rfl) (zB6 (j:=0) (by kernel_rfl) rfl rfl) (fun w2 hb=>zW4 underlying52 rfl (by kernel_rfl) (B0.drew.bQ hb) rfl) (fun _ _=>rfl)) ?_;refine zA (zE8 rfl func124 (by kernel_rfl) (zB5 rfl) (zB6 (j:=1) (by kernel_rfl) rfl rfl) (fun w2 u0 hb h0=>by obtain rfl:=h0;exact (jA8 _ _ _ (k0z.drew.bQ hb) (zB4 hl.1 (by decide))).mono fun e w3 h=>zE9.pd h hb.size)) ?_;refine zA (zC4 rfl (zB5 rfl) (zB7 rfl rfl) (fun _=>by kernel_rfl) (fun _=>rfl)) ?_;refine zA (zC1 rfl (zB5 rfl) (zB6 (j:=3) (by kernel_rfl) rfl rfl) (fun w2 hb=>zD underlying50 rfl ((B0.drew.bQ hb).cell 2)) (fun _ _=>rfl)) ?_;refine zA (zE8 rfl func125 (by kernel_rfl) (zB5 rfl) (zB6 (j:=4) (by kernel_rfl) rfl rfl) (fun w2 u0 hb h0=>by obtain rfl:=h0;exact (yA5 _ _ _ (k0d.drew.bQ hb) (zB4 (qR9 _) (by have:=hl.2;omega)) (zB4 hl.2 (by decide))).mono fun e w3 h=>zD7.pd h hb.size)) ?_;refine zA (zM5 rfl (zB5 rfl) (zB6 (j:=2) (by kernel_rfl) rfl rfl) (zB6 (j:=5) (by kernel_rfl) rfl rfl) (fun w2 u v hb hu hv=>by obtain ⟨u7,rfl,hu7⟩:=hu.1;obtain ⟨A7,c7,rfl,_⟩:=id hu7;obtain ⟨A8,c8,rfl,_⟩:=id hv.1;exact ⟨.agg #[.bool (ngB (q).num),.slice A7 (digs 4294967296 (q).num.natAbs).length c7,.slice A8 (digs 4294967296 (q).den).length c8],by kernel_rfl,⟨⟨_,_,rfl,hu7,hv.1⟩,zM4 (hu.2 _ _ rfl) hv.2⟩⟩)) ?_
  trivial
 case done10 =>
  refine fun w11 hb11 v0 h0 v1 h1 v2 h2 v3 h3 v4 h4 v5 h5 v6 h6 b hbf => ?_;obtain rfl:=h0;obtain rfl:=h1;obtain rfl:=h3;obtain rfl:=h4;obtain ⟨q2,f2⟩:=h2;obtain ⟨q5,f5⟩:=h5;obtain ⟨q6,f6⟩:=h6;simp only [Act.put,zA0,zA2,zA1] at hbf;subst hbf;replace B0:=B0.bQ hb11;replace k0s:=k0s.bQ hb11;replace k0d:=k0d.bQ hb11;replace k0z:=k0z.bQ hb11;replace k0:=k0.bQ hb11;replace BR0:=BR0.bQ hb11;replace bb:=bb.trans (hb11.mono bb.size);have hsz11:=bb.size;have s_2:=sB;have s_5:=sB;have s_6:=sB;obtain ⟨u6,t6,rfl,q6,d6⟩:=q6;obtain ⟨A9,c9,rfl,_⟩:=id q6;obtain ⟨D9,e9,rfl,_⟩:=id d6;refine zL8 (i:=7) (by kernel_rfl) rfl rfl rfl rfl rfl rfl (cells:=[.bool (ngB (q).num),.slice A9 (digs 4294967296 (q).num.natAbs).length c9,.slice D9 (digs 4294967296 (q).den).length e9]) rfl BR0 rfl (by kernel_rfl) (zH2 rfl rfl rfl) fun w9 hg9 B9 => ?_;have k9:=off q6 BR0 zD3 hg9;have d9:=off d6 BR0 zD3 hg9;have f9:=f6.mono (show w.heap.size<=_ from s_6);have bb9:=bb.trans ((Below.refl _ _).grown hg9 bb.size (fun g hg=>by injection hg with hg;omega));obtain ⟨C0,C1,C2,_,_,_⟩:=three B9;refine zJ0 (by kernel_rfl) ?_;go_wp2;exact bodyPost_ret (v:=.agg #[.bool (ngB (q).num),.slice A9 (digs 4294967296 (q).num.natAbs).length c9,.slice D9 (digs 4294967296 (q).den).length e9]) (by simp [results,results104,go_sem,C0,C1,C2]) rfl ⟨_,rfl,⟨_,_,rfl,k9,d9⟩,f9,bb9⟩
theorem jC2 (n:Int) (w:World) (h1 : -9223372036854775807<=n) (h2:n<=9223372036854775807) :
  Calls prog 40 #[.int .i64 n] w (qG0 n w):=by
 by_cases hn:n<0
 ·have HZ:Hid (sg true n.natAbs=n):=by show _=_;rw [qB6];omega
  go_enter func40,ntmps40
  go_upto_region 1 with (fail)
  obtain ⟨wx,hwx,bb,BR0,hsz⟩:=zL1 w 52 #[.bool false,.slice none 0 0];rw [hwx];clear hwx;go_upto_region 2 with (fail);refine zC6 4 [Pd.eq (.int .i64 n),Pd.eq (.int .i64 (-n)),ps .i64 (digs 10000 n.natAbs) wx.heap.size,pr (n)] (by kernel_rfl) ?ob16 ?done16
  case ob16 =>
   refine zA (zC0 rfl (zB5 rfl) (zB7 rfl rfl) (fun _ _ h=>h)) ?_;refine zA (zU5 rfl (zB5 rfl) (zB6 (j:=0) (by kernel_rfl) rfl rfl) (fun _=>un_neg _ _ (by omega)) (fun _=>rfl)) ?_;refine zA (zE8 rfl func41 (by kernel_rfl) (zB5 rfl) (zB6 (j:=1) (by kernel_rfl) rfl rfl) (fun w2 u0 hb h0=>by obtain rfl:=h0;exact (qT6 _ n.natAbs _ (by omega) (by omega)).mono fun e w3 h=>zD7.pd h hb.size)) ?_;refine zA (zD8 rfl func74 (by kernel_rfl) (zB5 rfl) (zG2 _) (zB6 (j:=2) (by kernel_rfl) rfl rfl) (fun w2 u0 u1 hb h0 h1=>by obtain rfl:=h0;exact qT4 _ _ _ n _ h1.1 HZ.out)) ?_
   trivial
  case done16 =>
   refine fun w1 hb1 v0 h0 v1 h1 v2 h2 v3 h3 b hbf => ?_;obtain rfl:=h0;obtain rfl:=h1;obtain ⟨q2,f2⟩:=h2;have q3:=h3;simp only [Act.put,zA0,zA2,zA1] at hbf;subst hbf;replace BR0:=BR0.bQ hb1;replace bb:=bb.trans (hb1.mono bb.size);have hsz1:=bb.size;obtain ⟨u3,rfl,q3⟩:=q3;obtain ⟨A9,c9,rfl,_⟩:=id q3;refine zG5 (i:=4) rfl rfl rfl rfl rfl rfl (cells:=[.bool (ngB n),.slice A9 (digs 10000 n.natAbs).length c9]) rfl BR0 rfl (by kernel_rfl) (zJ1 rfl rfl) fun w9 hg9 B9 => ?_;have k9:=off q3 BR0 no_ints2 hg9;have bb9:=bb.trans ((Below.refl _ _).grown hg9 bb.size (fun g hg=>by injection hg with hg;omega));obtain ⟨c0,c1,_,_⟩:=Blk.two B9;refine zC7 ?_;go_wp2;exact bodyPost_ret (v:=.agg #[.bool (ngB n),.slice A9 (digs 10000 n.natAbs).length c9]) (by simp [results,results40,go_sem,c0,c1]) rfl ⟨_,rfl,⟨_,rfl,k9⟩,bb9⟩
 ·have HZ:Hid (sg false n.natAbs=n):=by show _=_;rw [qB7];omega
  go_enter func40,ntmps40
  go_upto_region 1 with (fail)
  obtain ⟨wx,hwx,bb,BR0,hsz⟩:=zL1 w 52 #[.bool false,.slice none 0 0];rw [hwx];clear hwx;go_upto_region 3 with (fail);refine zC6 3 [Pd.eq (.int .i64 n),ps .i64 (digs 10000 n.natAbs) wx.heap.size,pr (n)] (by kernel_rfl) ?ob17 ?done17
  case ob17 =>
   refine zA (zC0 rfl (zB5 rfl) (zB7 rfl rfl) (fun _ _ h=>h)) ?_;refine zA (zE8 rfl func41 (by kernel_rfl) (zB5 rfl) (zB6 (j:=0) (by kernel_rfl) rfl rfl) (fun w2 u0 hb h0=>by obtain rfl:=h0;exact (qT6 _ n.natAbs _ (by omega) (by omega)).mono fun e w3 h=>zD7.pd h hb.size)) ?_;refine zA (zD8 rfl func74 (by kernel_rfl) (zB5 rfl) (zG2 _) (zB6 (j:=1) (by kernel_rfl) rfl rfl) (fun w2 u0 u1 hb h0 h1=>by obtain rfl:=h0;exact qT4 _ _ _ n _ h1.1 HZ.out)) ?_
   trivial
  case done17 =>
   refine fun w1 hb1 v0 h0 v1 h1 v2 h2 b hbf => ?_;obtain rfl:=h0;obtain ⟨q1,f1⟩:=h1;have q2:=h2;simp only [Act.put,zA0,zA2,zA1] at hbf;subst hbf;replace BR0:=BR0.bQ hb1;replace bb:=bb.trans (hb1.mono bb.size);have hsz1:=bb.size;obtain ⟨u2,rfl,q2⟩:=q2;obtain ⟨A9,c9,rfl,_⟩:=id q2;refine zG5 (i:=3) rfl rfl rfl rfl rfl rfl (cells:=[.bool (ngB n),.slice A9 (digs 10000 n.natAbs).length c9]) rfl BR0 rfl (by kernel_rfl) (zJ1 rfl rfl) fun w9 hg9 B9 => ?_;have k9:=off q2 BR0 no_ints2 hg9;have bb9:=bb.trans ((Below.refl _ _).grown hg9 bb.size (fun g hg=>by injection hg with hg;omega));obtain ⟨c0,c1,_,_⟩:=Blk.two B9;refine zC7 ?_;go_wp2;exact bodyPost_ret (v:=.agg #[.bool (ngB n),.slice A9 (digs 10000 n.natAbs).length c9]) (by simp [results,results40,go_sem,c0,c1]) rfl ⟨_,rfl,⟨_,rfl,k9⟩,bb9⟩
theorem jC3 (n:Int) (d:Int) (w:World)  (dn:Nat) (hd:d=(dn:Int)) (h1 : -9223372036854775807<=n) (h2:n<=9223372036854775807) (h3:dn≠0) (h4:dn<=9223372036854775807) :
  Calls prog 15 #[.int .i64 n,.int .i64 d] w (zZ5 (mkRat n dn) w):=by
 have HLZ:Hid (zC2 n<=30000):=zB4 (qM (by omega)) (by decide);have HLD:Hid ((digs 4294967296 dn).length<=30000):=zB4 (qM (by omega)) (by decide)
 go_enter func15,ntmps15
 go_upto_region 1 with (fail)
 obtain ⟨wx,hwx,bb,BR0,hsz⟩:=zL1 w 54 #[.bool false,.slice none 0 0,.slice none 0 0];rw [hwx];clear hwx;have hsz0:=bb.size;have sB:=bb.size;refine zC6 5 [Pd.eq (.int .i64 n),pr (n),Pd.eq (.int .i64 d),ps .i64 (digs 10000 dn) wx.heap.size,ppf (mkRat n dn) wx.heap.size] (by kernel_rfl) ?ob18 ?done18
 case ob18 =>
  refine zA (zC0 rfl (zB5 rfl) (zB7 rfl rfl) (fun _ _ h=>h)) ?_;refine zA (zE8 rfl func40 (by kernel_rfl) (zB5 rfl) (zB6 (j:=0) (by kernel_rfl) rfl rfl) (fun w2 u0 hb h0=>by obtain rfl:=h0;exact (jC2 n _ h1 h2).mono fun e w3 h=>qG0.pd h)) ?_;refine zA (zC0 rfl (zB5 rfl) (zB7 rfl rfl) (fun _ _ h=>h)) ?_;refine zA (zE8 rfl func41 (by kernel_rfl) (zB5 rfl) (zB6 (j:=2) (by kernel_rfl) rfl rfl) (fun w2 u0 hb h0=>by obtain rfl:=h0;exact (qT6 _ dn _ hd h4).mono fun e w3 h=>zD7.pd h hb.size)) ?_;refine zA (zD8 rfl func39 (by kernel_rfl) (zB5 rfl) (zB6 (j:=1) (by kernel_rfl) rfl rfl) (zB6 (j:=3) (by kernel_rfl) rfl rfl) (fun w2 u0 u1 hb h0 h1=>by exact (qT7 _ n _ dn _ h0 h1.1 h3 HLZ.out HLD.out).mono fun e w3 h=>zZ5.pdf h hb.size)) ?_
  trivial
 case done18 =>
  refine fun w11 hb11 v0 h0 v1 h1 v2 h2 v3 h3 v4 h4 b hbf => ?_;obtain rfl:=h0;obtain rfl:=h2;have q1:=h1;obtain ⟨q3,f3⟩:=h3;obtain ⟨q4,f4⟩:=h4;simp only [Act.put,zA0,zA2,zA1] at hbf;subst hbf;replace BR0:=BR0.bQ hb11;replace bb:=bb.trans (hb11.mono bb.size);have hsz11:=bb.size;have s_3:=sB;have s_4:=sB;obtain ⟨u4,t4,rfl,q4,d4⟩:=q4;obtain ⟨A9,c9,rfl,_⟩:=id q4;obtain ⟨D9,e9,rfl,_⟩:=id d4;refine zG5 (i:=5) rfl rfl rfl rfl rfl rfl (cells:=[.bool (ngB (mkRat n dn).num),.slice A9 (digs 10000 (mkRat n dn).num.natAbs).length c9,.slice D9 (digs 10000 (mkRat n dn).den).length e9]) rfl BR0 rfl (by kernel_rfl) (zH2 rfl rfl rfl) fun w9 hg9 B9 => ?_;have k9:=off q4 BR0 zD3 hg9;have d9:=off d4 BR0 zD3 hg9;have f9:=f4.mono (show w.heap.size<=_ from s_4);have bb9:=bb.trans ((Below.refl _ _).grown hg9 bb.size (fun g hg=>by injection hg with hg;omega));obtain ⟨C0,C1,C2,_,_,_⟩:=three B9;refine zC7 ?_;go_wp2;exact bodyPost_ret (v:=.agg #[.bool (ngB (mkRat n dn).num),.slice A9 (digs 10000 (mkRat n dn).num.natAbs).length c9,.slice D9 (digs 10000 (mkRat n dn).den).length e9]) (by simp [results,results15,go_sem,C0,C1,C2]) rfl ⟨_,rfl,⟨_,_,rfl,k9,d9⟩,f9,bb9⟩
end rat
namespace flow
open Go.RowKit num mem
section
variable {P:Program} {Q:Exit->Act->World->Prop} {ops:Array Oper} {o:Oper}
theorem jC4 {L:List Oper} {Φ : List Pd} {w0:World} {a0:Act} {i:Nat} {t:TypeId} {x:Operand} {k:Nat} {F:World->Value->Prop} (hop:o.op=.field t x k) (hw:Wt ops L Φ w0 a0 o true) (hx:Ev L Φ w0 a0 o x F) (hr:∀ w u,F w u -> ∃ v,(Instr.field t u k).run P w=.ok v w/\(ph Φ i).p w v):Ob P Q ops L Φ w0 a0 i o :=
 zO5 hw (by unfold isA;rw [hop]) fun ms w hS=>by
  obtain ⟨v,h1,h2⟩:=hr w _ (hx ms w hS);exact ⟨v,by unfold execOp;simp only [hop,Sem.run_bind,h1];rfl,h2⟩
end
end flow
namespace flow
open Go.RowKit num mem nat txt str
section
variable {P:Program} {Q:Exit->Act->World->Prop} {ops:Array Oper} {o:Oper}
end
section
variable {P:Program} {Q:Exit->Act->World->Prop} {ops:Array Oper} {L:List Oper} {Φ : List Pd} {w0:World} {a0:Act} {i:Nat} {o:Oper}
theorem zH8 {t:TypeId} {x y:Operand} {F G:World->Value->Prop} (hop:o.op=.indexAddr t x y) (hw:Wt ops L Φ w0 a0 o true) (hx:Ev L Φ w0 a0 o x F) (hy:Ev L Φ w0 a0 o y G)
  (hr:∀ w u v,F w u->G w v -> ∃ r,(Instr.indexAt t u v).run P w=.ok r w/\(ph Φ i).p w r):Ob P Q ops L Φ w0 a0 i o :=
 zO5 hw (by unfold isA;rw [hop]) fun ms w hS=>by
  obtain ⟨v,h1,h2⟩:=hr w _ _ (hx ms w hS) (hy ms w hS);exact ⟨v,by unfold execOp;simp only [hop,Sem.run_bind,h1];rfl,h2⟩
end
end flow
namespace rat
open Go.RowKit num mem nat txt str flow whl
theorem yH {x y m:Nat} (hx:(digs 4294967296 x).length<=m) (hy:(digs 4294967296 y).length<=m):(digs 4294967296 (x+y)).length<=m+1:=by
 have h1:=bY2 (zK6 (B:=4294967296) (by omega) x) (bX9 (by omega) hx);have h2:=bY2 (zK6 (B:=4294967296) (by omega) y) (bX9 (by omega) hy);refine zG7 (by omega) ?_;rw [bY1];omega
theorem yH0 {x y:Int} {m:Nat} (hx:zC2 x<=m) (hy:zC2 y<=m):zC2 (x+y)<=m+1 :=
 zB4 (zG1 (by omega) (show (x+y).natAbs<=x.natAbs+y.natAbs by omega)) (yH hx hy)
theorem jC5 {x y:Rat} {m n:Nat} (h:zC3 x m) (h':zC3 y n):zC3 (x+y) (m+n+1):=by
 rw [Rat.add_def'];have e1:=qB8 x.num y.den;have e2:=qB8 y.num x.den;have e4:=qB8 x.den y.den;have h1:=h.1;have h2:=h.2;have h3:=h'.1;have h4:=h'.2;rw [zN6] at e1 e2;rw [zN6,zN6,<- Int.natCast_mul,zN6] at e4;have e3:=yH0 (x:=x.num*y.den) (y:=y.num*x.den) (m:=m+n) (by omega) (by omega);exact zR6 (Nat.mul_ne_zero x.den_nz y.den_nz) e3 (by omega)
abbrev Elt:=Rat × Value × Value
def IsE (k:IntKind) (B:Nat) (w:World) (p:Elt):Prop:=IsS w k p.2.1 (digs B p.1.num.natAbs)/\IsS w k p.2.2 (digs B p.1.den)
theorem IsE.bQ {k:IntKind} {B:Nat} {w w':World} {p:Elt} (h:IsE k B w p) (hb:Below w.heap.size w w'):IsE k B w' p:=⟨h.1.bQ hb,h.2.bQ hb⟩
def zK9 (p:Elt):List Value:=[.bool (ngB p.1.num),p.2.1,p.2.2]
def zF1 (ps:List Elt):List Value:=ps.flatMap zK9
theorem jC6 (ps:List Elt) (p:Elt):zF1 (ps ++ [p])=zF1 ps ++ zK9 p:=by simp [zF1]
theorem qM0:∀ (ps:List Elt) (i:Nat) (p:Elt),ps[i]?=some p->(zF1 ps)[i*3]?=some (.bool (ngB p.1.num))/\(zF1 ps)[i*3+1]?=some p.2.1/\(zF1 ps)[i*3+2]?=some p.2.2
  | [],i,p,h=>by simp at h
  | q :: ps, 0, p, h => by
    obtain rfl:q=p:=by simpa using h
    exact ⟨rfl,rfl,rfl⟩
  | q :: ps, i + 1, p, h => by
    have ih:=qM0 ps i p (by simpa using h);have e:zF1 (q :: ps)=.bool (ngB q.1.num) :: q.2.1 :: q.2.2 :: zF1 ps:=rfl;rw [e,show (i+1)*3=i*3+1+1+1 from by omega];simpa using ih
def zP1 (w:World) (v:Value) (ps:List Elt):Prop:=∃ A c,v=.slice A ps.length c/\ps.length<=c/\c<=maxLen /\ ∀ i p,ps[i]?=some p -> ∃ g o,A=some ⟨g,o,none⟩/\w.cell? ⟨g,o+i*3,none⟩=some (.bool (ngB p.1.num))/\w.cell? ⟨g,o+i*3+1,none⟩=some p.2.1/\w.cell? ⟨g,o+i*3+2,none⟩=some p.2.2
theorem zP1.bQ {w w':World} {v:Value} {ps:List Elt} (h:zP1 w v ps) (hb:Below w.heap.size w w'):zP1 w' v ps:=by
 obtain ⟨A,c,e,h1,h2,h3⟩:=h;refine ⟨A,c,e,h1,h2,fun i p hp => ?_⟩;obtain ⟨g,o,e2,c0,c1,c2⟩:=h3 i p hp;exact ⟨g,o,e2,(hb.cell (bQ0 w _ c0)).trans c0,(hb.cell (bQ0 w _ c1)).trans c1,(hb.cell (bQ0 w _ c2)).trans c2⟩
def SlF (k:IntKind) (B:Nat) (w:World) (v:Value) (qs:List Rat):Prop:=∃ ps:List Elt,ps.map (·.1)=qs/\zP1 w v ps /\ ∀ p∈ps,IsE k B w p
theorem SlF.bQ {k:IntKind} {B:Nat} {w w':World} {v:Value} {qs:List Rat} (h:SlF k B w v qs) (hb:Below w.heap.size w w'):SlF k B w' v qs:=by
 obtain ⟨ps,e,h1,h2⟩:=h;exact ⟨ps,e,h1.bQ hb,fun p hp=>(h2 p hp).bQ hb⟩
theorem SlF.shape {k:IntKind} {B:Nat} {w:World} {v:Value} {qs:List Rat} (h:SlF k B w v qs):∃ A c,v=.slice A qs.length c/\qs.length<=c/\c<=maxLen:=by
 obtain ⟨ps,rfl,⟨A,c,e,h1,h2,_⟩,_⟩:=h;rw [zA9];exact ⟨A,c,e,h1,h2⟩
theorem SlF.at_ {k:IntKind} {B:Nat} {w:World} {A:Option Addr} {n c:Nat} {qs:List Rat} {i:Nat} {q:Rat} (h:SlF k B w (.slice A n c) qs) (hq:qs[i]?=some q):∃ g o u t,A=some ⟨g,o,none⟩/\i<n/\w.cell? ⟨g,o+i*3,none⟩=some (.bool (ngB q.num))/\w.cell? ⟨g,o+i*3+1,none⟩=some u/\w.cell? ⟨g,o+i*3+2,none⟩=some t/\IsS w k u (digs B q.num.natAbs)/\IsS w k t (digs B q.den):=by
  obtain ⟨ps,rfl,⟨A',c',e,h1,h2,h3⟩,h4⟩:=h;injection e with e1 e2 e3;subst e1;subst e2;subst e3;rw [zB1] at hq
  cases hp:ps[i]? with
  | none=>rw [hp] at hq;cases hq
  | some p =>
    rw [hp] at hq;obtain rfl:p.1=q:=by simpa using hq
    obtain ⟨g,o,e4,c0,c1,c2⟩:=h3 i p hp;have h5:=h4 p (zA5 hp);exact ⟨g,o,p.2.1,p.2.2,e4,(zA4.1 hp).1,c0,c1,c2,h5.1,h5.2⟩
theorem zH9 {P:Program} {t e:TypeId} (hu:P.underlying t=some (.slice e)) (hs:(P.info? e).map (·.size)=some 3) {g o n c k:Nat} (hk:k<n) (w:World):(Instr.indexAt t (.slice (some ⟨g,o,none⟩) n c) (.int .i64 (k:Int))).run P w=.ok (.pointer (some ⟨g,o+k*3,none⟩)) w:=by
  cases hq:P.info? e with
  | none=>simp [hq] at hs
  | some inf =>
    have hsz:inf.size=3:=by simpa [hq] using hs
    simp [Instr.indexAt,asIntOf,go_sem,run_underlying hu,sizeOf,typeInfo,hq,hsz,hk]
theorem zP2 {P:Program} {t:TypeId} {g o:Nat} {x y z:Value} {d:TypeDesc} {w:World} (hu:P.underlying t=some d) (hd:d.isRow=true) (hi:(P.info? t).map (·.size)=some 3) (h0:w.cell? ⟨g,o,none⟩=some x) (h1:w.cell? ⟨g,o+1,none⟩=some y) (h2:w.cell? ⟨g,o+2,none⟩=some z):(Instr.loadAt t (.pointer (some ⟨g,o,none⟩))).run P w=.ok (.agg #[x,y,z]) w :=
 run_loadAt_mid w g o t [x,y,z] d (fun j v hj=>by
  match j,hj with
  | 0,hj=>simp at hj;subst hj;exact h0
  | 1,hj=>simp at hj;subst hj;exact h1
  | 2,hj=>simp at hj;subst hj;exact h2
  | j+3,hj=>simp at hj) hu hd hi
def zD0 (T:TypeId) (w:World) (base:Nat) (v:Value) (ps:List Elt):Prop:=w.ownsRow base T 3 v ps.length (zF1 ps)
theorem zD0.bQ {T:TypeId} {w w':World} {base:Nat} {v:Value} {ps:List Elt} (h:zD0 T w base v ps) (hb:Below w.heap.size w w'):zD0 T w' base v ps :=
 World.ownsRow.kept (row:=none) h ⟨hb.os,hb.tape,hb.output,hb.size,fun i hi _=>hb.block i hi⟩ (by cases hv:v.ownBlock<;>simp)
theorem zD0.other {T:TypeId} {w w':World} {base:Nat} {v:Value} {ps:List Elt} {row:Option Nat} (h:zD0 T w base v ps) (hg:w.grownBy w' row) (hne:∀ g,v.ownBlock=some g->row≠some g):zD0 T w' base v ps :=
 World.ownsRow.kept (row:=row) h hg (by
  cases hv:v.ownBlock with
  | none=>exact .inl rfl
  | some g=>exact .inr fun e=>hne g hv e.symm)
theorem zD0.under {T:TypeId} {w:World} {base:Nat} {v:Value} {ps:List Elt} (h:zD0 T w base v ps):∀ g,v.ownBlock=some g->g<w.heap.size:=fun g hg=>(World.ownsRow.lt h g hg).2
theorem zD0.base_le {T:TypeId} {w:World} {base:Nat} {v:Value} {ps:List Elt} (h:zD0 T w base v ps):∀ g,v.ownBlock=some g->base<=g:=fun g hg=>(World.ownsRow.lt h g hg).1
theorem zD0.isVF {T:TypeId} {w:World} {base:Nat} {v:Value} {ps:List Elt} (h:zD0 T w base v ps):zP1 w v ps:=by
 rcases h.2 with ⟨rfl,h0⟩|⟨g,cap,cur,rfl,_,hg,hn,hm,_,_⟩
 ·obtain rfl:ps=[]:=List.length_eq_zero_iff.1 h0;exact ⟨none,0,rfl,by simp,by unfold maxLen;omega,fun i u hu=>by simp at hu⟩
 ·refine ⟨_,cap,rfl,hn,hm,fun i p hp=>⟨g,0,rfl,?_⟩⟩
  have e:∀ j,(⟨g,0,none⟩:Addr).add j=⟨g,0+j,none⟩:=by
   intro j;unfold Addr.add;by_cases h:j=0
   ·simp [h]
   ·simp [h]
  obtain ⟨f0,f1,f2⟩:=qM0 ps i p hp;have k0:=World.ownsRow.cells h (g:=g) rfl _ _ f0;have k1:=World.ownsRow.cells h (g:=g) rfl _ _ f1;have k2:=World.ownsRow.cells h (g:=g) rfl _ _ f2;rw [e] at k0 k1 k2;exact ⟨k0,by rw [Nat.add_assoc];exact k1,by rw [Nat.add_assoc];exact k2⟩
theorem yH1 (T:TypeId) (w:World) (base:Nat) (hb:base<=w.heap.size):zD0 T (w.alloc (.cells #[] T)) base (.slice (some ⟨w.heap.size,0,none⟩) 0 0) []:=by
 have h:=World.ownsRow_lit (e:=T) (size:=3) w #[] 0 hb (by simp) (by simp);simpa [zD0,zF1] using h
theorem qT8 (T:TypeId) (w:World) (base:Nat):zD0 T w base (.slice none 0 0) []:=World.ownsRow_nil w base T 3
def zH (k:IntKind) (B:Nat) (w:World) (v:Value) (ps:List Elt):Prop:=∀ p∈ps,IsE k B w p/\Far v p.2.1/\Far v p.2.2
theorem zH.nil (k:IntKind) (B:Nat) (w:World) (v:Value):zH k B w v []:=fun p hp=>by cases hp
theorem zH.bQ {k:IntKind} {B:Nat} {w w':World} {v:Value} {ps:List Elt} (h:zH k B w v ps) (hb:Below w.heap.size w w'):zH k B w' v ps:=fun p hp=>⟨(h p hp).1.bQ hb,(h p hp).2⟩
theorem zH.snoc {k:IntKind} {B:Nat} {w w':World} {v v':Value} {ps:List Elt} {p:Elt} (h:zH k B w v ps) (hk:qK7 w w' v v') (hp:IsE k B w p) (f1:Far v p.2.1) (f2:Far v p.2.2):zH k B w' v' (ps ++ [p]):=by
 intro r hr;rcases List.mem_append.1 hr with hr | hr
 ·obtain ⟨⟨a1,a2⟩,b1,b2⟩:=h r hr;have x1:=hk _ _ _ a1 b1;have x2:=hk _ _ _ a2 b2;exact ⟨⟨x1.1,x2.1⟩,x1.2,x2.2⟩
 ·obtain rfl:=List.mem_singleton.1 hr;have x1:=hk _ _ _ hp.1 f1;have x2:=hk _ _ _ hp.2 f2;exact ⟨⟨x1.1,x2.1⟩,x1.2,x2.2⟩
theorem zD0.sl {T:TypeId} {k:IntKind} {B:Nat} {w:World} {base:Nat} {v:Value} {ps:List Elt} (h:zD0 T w base v ps) (hf:zH k B w v ps):SlF k B w v (ps.map (·.1)):=⟨ps,rfl,h.isVF,fun p hp=>(hf p hp).1⟩
section
variable {P:Program}
end
theorem zP3:∃ i,prog.info? 44=some i/\i.zero=some (.agg #[.bool false,.slice none 0 0,.slice none 0 0])/\i.size=3/\i.bytes=56:=info_parts (P:=prog) (e:=44) (z:=.agg #[.bool false,.slice none 0 0,.slice none 0 0]) (size:=3) (bytes:=56) (by kernel_rfl)
theorem yH2:∃ i,prog.info? 54=some i/\i.zero=some (.agg #[.bool false,.slice none 0 0,.slice none 0 0])/\i.size=3/\i.bytes=56:=info_parts (P:=prog) (e:=54) (z:=.agg #[.bool false,.slice none 0 0,.slice none 0 0]) (size:=3) (bytes:=56) (by kernel_rfl)
def zL (d:Nat):Nat:=if d=0 then 1 else d
theorem qM1 (d:Nat):zL d≠0:=by unfold zL;split<;>omega
theorem yH3 {d m:Nat} (h:(digs 4294967296 d).length<=m) (hm:1<=m):(digs 4294967296 (zL d)).length<=m:=by
 unfold zL
 split
 ·exact zB4 (zG7 (k:=1) (by omega) (by omega)) hm
 ·exact h
def qG9 (b:Bool) (l m:List Nat) (most:Nat):Rat:=mkRat (zU9 b l most) (zL (zY6 m most))
theorem jC7 (b:Bool) (l m:List Nat) {most:Nat} (hm:1<=most):zC3 (qG9 b l m most) most:=zR6 (qM1 _) (yG4 _ _ _) (yH3 (qR8 _ _) hm)
theorem jC8 (b:Bool) (v u:Value) (l m:List Nat) (mI:Int) (most:Nat) (w:World) (hmI:mI=(most:Int)) (h0:IsS w .u64 v l) (u0:Lt 18446744073709551616 l) (h1:IsS w .u64 u m) (u1:Lt 18446744073709551616 m) (hmost:most<=1000) (hm1:1<=most) :
  Calls prog 70 #[.agg #[.bool b,v,u],.int .i64 mI] w (RetQ (qG9 b l m most) w):=by
 obtain ⟨A0,c0,rfl,_⟩:=id h0;obtain ⟨D0,e0,rfl,_⟩:=id h1;have HM:=hQ9 hmI;clear hmI;obtain ⟨y,hy⟩:∃ y,y=zY6 m most:=⟨_,rfl⟩;have my:(digs 4294967296 y).length<=most:=by rw [hy];exact qR8 _ _
 have HY:=hQ9 hy.symm;obtain ⟨x,hx⟩:∃ x,x=zU9 b l most:=⟨_,rfl⟩;have lx:zC2 x<=most:=by rw [hx];exact yG4 _ _ _
 have HX:=hQ9 hx.symm;have HQ:Hid (qG9 b l m most=mkRat x (zL y)):=by show _=_;unfold qG9;rw [hx,hy]
 clear hx hy
 go_enter func70,ntmps70
 go_upto_region 1 with (fail)
 obtain ⟨wx,hwx,bb,B0,B1,hsz⟩:=zK3 w 44 44 #[.bool b,.slice A0 l.length c0,.slice D0 m.length e0] #[.bool false,.slice none 0 0,.slice none 0 0];rw [hwx];clear hwx;have k0s:=h0.bQ bb;have k0d:=h1.bQ bb;obtain ⟨x00,x01,x02,_,_,_⟩:=three B0;have hs0:=bb.size;go_wp2_with fail
 refine (HY.out ▸ yC4 _ m _ most _ HM.out k0d u1 (zB4 hmost (by decide))).mono ?_;rintro e w1 ⟨v1,rfl,k1,f1,b1⟩;obtain ⟨A1,c1,rfl,_⟩:=id k1;replace B0:=B0.bQ b1;replace B1:=B1.bQ b1;replace k0s:=k0s.bQ b1;replace bb:=bb.trans (b1.mono bb.size);have hs1:=bb.size;clear x00 x01 x02 k0d;have HL1:Hid (zC2 x<=30000):=zB4 lx (by omega);have HL2:Hid ((digs 4294967296 (zL y)).length<=30000):=zB4 (yH3 my (by omega)) (by omega);have HLQ:Hid (zC3 (mkRat x (zL y)) 30000):=zR6 (qM1 y) HL1.out HL2.out;by_cases hy0:y=0
 ·have HZ:Hid ((digs 4294967296 y).length=0):=by show _=_;rw [hy0,zJ];rfl
  have HO:Hid (digs 4294967296 (zL y)=[1]):=by show _=_;rw [hy0];exact digs_one 1 (by omega) (by omega)
  have hz0:(digs 4294967296 y).length=0:=HZ.out;clear hy0;have bA:=zC9 (zB3 w1.heap.size) (.cells #[.int .u64 1] 75);have k1o:=(yA4 w1 w1.heap.size 75 .u64 (show (1:Int)=((1:Nat):Int) from rfl) (zB3 _)).isS;rw [<- HO.out] at k1o;replace k0s:=k0s.bQ bA;obtain ⟨x10,x11,x12,_,_,_⟩:=three (B0.bQ bA);replace B1:=B1.bQ bA;replace bb:=bb.trans (bA.mono bb.size);have hs2:=bb.size;clear k1 f1;go_wp2_with fail
  refine (HX.out ▸ yG5 b _ l _ most _ HM.out k0s u0 (zB4 hmost (by decide))).mono ?_;rintro e w2 ⟨v2,rfl,k2,f2,b2⟩;replace B1:=B1.bQ b2;replace k1o:=k1o.bQ b2;replace bb:=bb.trans (b2.mono bb.size);have hs3:=bb.size;go_wp2_with fail
  refine (yF9 _ x _ k2 HL1.out).mono ?_;rintro e w3 ⟨v3,rfl,k3,b3⟩;replace B1:=B1.bQ b3;replace k1o:=k1o.bQ b3;replace bb:=bb.trans (b3.mono bb.size);have hs4:=bb.size;go_wp2_with fail
  refine (qE4 _ (zL y) _ k1o (zB4 HL2.out (by decide))).mono ?_;rintro e w4 ⟨v4,rfl,k4,f4,b4⟩;replace B1:=B1.bQ b4;replace k3:=k3.bQ b4;replace bb:=bb.trans (b4.mono bb.size);have hs5:=bb.size;go_wp2_with fail
  refine (qT7 _ x _ (zL y) _ k3 k4 (qM1 y) HL1.out HL2.out).mono ?_;rintro e w5 ⟨v5,rfl,k5,f5,b5⟩;replace B1:=B1.bQ b5;replace bb:=bb.trans (b5.mono bb.size);have hs6:=bb.size;have hg5:=B1.lt;go_wp2_with fail
  refine (yG9 _ _ _ k5 HLQ.out).mono ?_;rintro e w6 ⟨v6,rfl,⟨u6,t6,rfl,k6,d6⟩,f6,b6⟩;obtain ⟨A6,c6,rfl,_⟩:=id k6;obtain ⟨D6,e6,rfl,_⟩:=id d6;replace B1:=B1.bQ b6;replace bb:=bb.trans (b6.mono bb.size);obtain ⟨y0,y1,y2,z0,z1,z2⟩:=three B1;go_wp2;exact bodyPost_ret (v:=.agg #[.bool (ngB (mkRat x (zL y)).num),.slice A6 (digs 4294967296 (mkRat x (zL y)).num.natAbs).length c6,.slice D6 (digs 4294967296 (mkRat x (zL y)).den).length e6]) (by simp [results,results70,go_sem,y0,y1,y2]) rfl (by rw [HQ.out];exact endQ bb (by omega) hg5 k6 d6 f6)
 ·have HZ:0<(digs 4294967296 y).length:=qF5 (by omega);have HO:Hid (zL y=y):=if_neg hy0;clear hy0;obtain ⟨x10,x11,x12,_,_,_⟩:=three B0;have k1o:IsS w1 .u64 (.slice A1 (digs 4294967296 y).length c1) (digs 4294967296 (zL y)):=by rw [HO.out];exact k1
  go_wp2_with fail
  refine (HX.out ▸ yG5 b _ l _ most _ HM.out k0s u0 (zB4 hmost (by decide))).mono ?_;rintro e w2 ⟨v2,rfl,k2,f2,b2⟩;replace B1:=B1.bQ b2;replace k1o:=k1o.bQ b2;replace bb:=bb.trans (b2.mono bb.size);have hs3:=bb.size;go_wp2_with fail
  refine (yF9 _ x _ k2 HL1.out).mono ?_;rintro e w3 ⟨v3,rfl,k3,b3⟩;replace B1:=B1.bQ b3;replace k1o:=k1o.bQ b3;replace bb:=bb.trans (b3.mono bb.size);have hs4:=bb.size;go_wp2_with fail
  refine (qE4 _ (zL y) _ k1o (zB4 HL2.out (by decide))).mono ?_;rintro e w4 ⟨v4,rfl,k4,f4,b4⟩;replace B1:=B1.bQ b4;replace k3:=k3.bQ b4;replace bb:=bb.trans (b4.mono bb.size);have hs5:=bb.size;go_wp2_with fail
  refine (qT7 _ x _ (zL y) _ k3 k4 (qM1 y) HL1.out HL2.out).mono ?_;rintro e w5 ⟨v5,rfl,k5,f5,b5⟩;replace B1:=B1.bQ b5;replace bb:=bb.trans (b5.mono bb.size);have hs6:=bb.size;have hg5:=B1.lt;go_wp2_with fail
  refine (yG9 _ _ _ k5 HLQ.out).mono ?_;rintro e w6 ⟨v6,rfl,⟨u6,t6,rfl,k6,d6⟩,f6,b6⟩;obtain ⟨A6,c6,rfl,_⟩:=id k6;obtain ⟨D6,e6,rfl,_⟩:=id d6;replace B1:=B1.bQ b6;replace bb:=bb.trans (b6.mono bb.size);obtain ⟨y0,y1,y2,z0,z1,z2⟩:=three B1;go_wp2;exact bodyPost_ret (v:=.agg #[.bool (ngB (mkRat x (zL y)).num),.slice A6 (digs 4294967296 (mkRat x (zL y)).num.natAbs).length c6,.slice D6 (digs 4294967296 (mkRat x (zL y)).den).length e6]) (by simp [results,results70,go_sem,y0,y1,y2]) rfl (by rw [HQ.out];exact endQ bb (by omega) hg5 k6 d6 f6)
theorem qM2 (z:Int) {d:Nat} (hd:d≠0):(mkRat z d).num=z / ((z.natAbs.gcd d:Nat):Int):=by
 rw [Rat.num_mkRat,if_neg hd,Nat.gcd_comm]
theorem qT9 (z:Int) {d:Nat} (hd:d≠0):z=(mkRat z d).num*((z.natAbs.gcd d:Nat):Int):=by
 rw [qM2 z hd,Int.ediv_mul_cancel (Int.ofNat_dvd_left.2 (Nat.gcd_dvd_left _ _))]
theorem yH4 (z:Int) {d:Nat} (hd:d≠0):d=(mkRat z d).den*(z.natAbs.gcd d):=by
 rw [zW2 z hd,Nat.div_mul_cancel (Nat.gcd_dvd_right _ _)]
theorem jC9 {q:Rat} {n:Int} {d:Nat} (hd:d≠0) (h:q=mkRat n d) (hc:Nat.gcd n.natAbs d=1):q.num=n/\q.den=d:=by
 subst h
 constructor
 ·rw [qM2 n hd,hc];exact Int.ediv_one n
 ·rw [zW2 n hd,hc,Nat.div_one]
theorem jD (x y:Rat):(x*y).num=(mkRat x.num y.den).num*(mkRat y.num x.den).num/\(x*y).den=(mkRat y.num x.den).den*(mkRat x.num y.den).den:=by
 have e1:=qT9 x.num y.den_nz;have e2:=yH4 x.num y.den_nz;have e3:=qT9 y.num x.den_nz;have e4:=yH4 y.num x.den_nz;have r1:=(mkRat x.num y.den).reduced;have r2:=(mkRat y.num x.den).reduced;have n1:=(mkRat x.num y.den).den_nz;have n2:=(mkRat y.num x.den).den_nz;have x1:=x.reduced;have y1:=y.reduced;refine jC9 (Nat.mul_ne_zero n2 n1) ?_ ?_
 ·rw [bY0,<- Rat.mkRat_mul_mkRat,Rat.mkRat_self,Rat.mkRat_self,Rat.mkRat_mul_mkRat,bY0 y.den,Rat.mul_def']
 ·have d1:(mkRat x.num y.den).num.natAbs∣x.num.natAbs:=Int.natAbs_dvd_natAbs.2 ⟨_,e1⟩;have d2:(mkRat y.num x.den).den∣x.den:=⟨_,e4⟩;have d3:(mkRat y.num x.den).num.natAbs∣y.num.natAbs:=Int.natAbs_dvd_natAbs.2 ⟨_,e3⟩;have d4:(mkRat x.num y.den).den∣y.den:=⟨_,e2⟩;rw [Int.natAbs_mul];have c1:Nat.Coprime (mkRat x.num y.den).num.natAbs (mkRat y.num x.den).den:=Nat.Coprime.coprime_dvd_left d1 (Nat.Coprime.coprime_dvd_right d2 x1);have c2:Nat.Coprime (mkRat y.num x.den).num.natAbs (mkRat x.num y.den).den:=Nat.Coprime.coprime_dvd_left d3 (Nat.Coprime.coprime_dvd_right d4 y1);exact (Nat.Coprime.mul_right c1 r1).mul_left (Nat.Coprime.mul_right r2 c2)
theorem jD0 (x y:Rat) {g a b:Nat} (hg:g=x.den.gcd y.den) (ha:a=x.den / g) (hb:b=y.den / g):(x+y).num=(mkRat (x.num*(b:Int)+y.num*(a:Int)) g).num/\(x+y).den=a*b*(mkRat (x.num*(b:Int)+y.num*(a:Int)) g).den:=by
 have gp:0<g:=by rw [hg];exact Nat.gcd_pos_of_pos_left _ x.den_pos
 have haux:=Rat.add.aux x y hg ha hb;have e1:x.den=a*g:=by rw [ha,Nat.div_mul_cancel (by rw [hg];exact Nat.gcd_dvd_left _ _)]
 have e2:y.den=b*g:=by rw [hb,Nat.div_mul_cancel (by rw [hg];exact Nat.gcd_dvd_right _ _)]
 obtain ⟨S,hS⟩:∃ S,S=x.num*(b:Int)+y.num*(a:Int):=⟨_,rfl⟩;rw [<- hS];have haux:S.natAbs.gcd g=S.natAbs.gcd (a*y.den):=by rw [hS];exact haux
 have e3:x+y=mkRat S (a*y.den):=by
  rw [Rat.add_def',show x.num*(y.den:Int)+y.num*(x.den:Int)=S*(g:Int) by rw [hS,e1,e2,Int.natCast_mul,Int.natCast_mul,Int.add_mul,Int.mul_assoc,Int.mul_assoc],show x.den*y.den=a*y.den*g by rw [e1];rw [bX8,bY0 g,<- bX8],Rat.mkRat_mul_right (by omega)]
 have ne:a*y.den≠0:=Nat.mul_ne_zero (fun e=>x.den_nz (by rw [e1,e,Nat.zero_mul])) y.den_nz;rw [e3]
 constructor
 ·rw [qM2 S ne,qM2 S (by omega),haux]
 ·rw [zW2 S ne,zW2 S (by omega),<- haux,e2,<- bX8,Nat.mul_div_assoc _ (Nat.gcd_dvd_right _ _)]
theorem jD1 (n:Int) (d:Nat) (hd:d≠0):mkRat (-n) d = -mkRat n d:=Rat.neg_mkRat n d |>.symm
theorem jD2 {x y:Rat} : x=y ↔ x.num=y.num/\x.den=y.den:=⟨fun h=>by rw [h];exact ⟨rfl,rfl⟩,fun h=>Rat.ext h.1 h.2⟩
theorem lenQ_of {x:Rat} {m:Nat} (h1:zC2 x.num<=m) (h2:(digs 4294967296 x.den).length<=m):zC3 x m:=⟨h1,h2⟩
def zW5 (z:Int) (d:Nat) (w:World) (e:Ending) (w':World):Prop:=∃ v u,e=.returned (.tuple #[v,u])/\IsZ w' v z/\IsS w' .u64 u (digs 4294967296 d)/\zQ6 w.heap.size v/\zE5 w.heap.size u/\Below w.heap.size w w'
def pzs (z:Int) (d:Nat) (B:Nat):Pd:=⟨fun w t => ∃ v u,t=.tuple #[v,u]/\IsZ w v z/\IsS w .u64 u (digs 4294967296 d)/\zQ6 B v/\zE5 B u,fun h hb=>by obtain ⟨v,u,e,h1,h2,h3,h4⟩:=h;exact ⟨v,u,e,h1.bQ hb,h2.bQ hb,h3,h4⟩⟩
theorem zW5.pd {z:Int} {d:Nat} {w:World} {e:Ending} {w':World} {B:Nat} (h:zW5 z d w e w') (hB:B<=w.heap.size):zI2 (pzs z d B) w e w':=by
 obtain ⟨v,u,h1,h2,h3,h4,h5,h6⟩:=h;exact ⟨_,h1,⟨v,u,rfl,h2,h3,h4.mono hB,h5.mono hB⟩,h6⟩
def zV0 (q:Rat) (n:Int) (w:World) (e:Ending) (w':World):Prop:=∃ v,e=.returned (.tuple #[v,.int .i64 n])/\IsQ w' v q/\zR7 w.heap.size v/\Below w.heap.size w w'
def pqf (q:Rat) (n:Int) (B:Nat):Pd:=⟨fun w t => ∃ v,t=.tuple #[v,.int .i64 n]/\IsQ w v q/\zR7 B v,fun h hb=>by obtain ⟨v,e,h1,h2⟩:=h;exact ⟨v,e,h1.bQ hb,h2⟩⟩
theorem zV0.pd {q:Rat} {n:Int} {w:World} {e:Ending} {w':World} {B:Nat} (h:zV0 q n w e w') (hB:B<=w.heap.size):zI2 (pqf q n B) w e w':=by
 obtain ⟨v,h1,h2,h3,h4⟩:=h;exact ⟨_,h1,⟨v,rfl,h2,h3.mono hB⟩,h4⟩
theorem zV0.e {q:Rat} {n:Int} {w:World} {e:Ending} {w':World} (h:zV0 q n w e w'):zU7 q n w e w':=by
 obtain ⟨v,h1,h2,_,h4⟩:=h;exact ⟨v,h1,h2,h4⟩
theorem zE9.to {x y:Int} {w:World} {e:Ending} {w':World} (h:zE9 x w e w') (k:x=y):zE9 y w e w':=k ▸ h
theorem zD7.to {l m:List Nat} {w:World} {e:Ending} {w':World} (h:zD7 .u64 l w e w') (k:l=m):zD7 .u64 m w e w':=k ▸ h
theorem RetQ.to {x y:Rat} {w:World} {e:Ending} {w':World} (h:RetQ x w e w') (k:x=y):RetQ y w e w':=k ▸ h
def pbq (b:Bool) (S:Value) (l:List Nat) (B:Nat):Pd:=⟨fun w v => ∃ A c,v=.agg #[.bool b,S,.slice A l.length c]/\IsS w .u64 (.slice A l.length c) l/\zE5 B (.slice A l.length c),fun h hb=>by obtain ⟨A,c,e,h1,h2⟩:=h;exact ⟨A,c,e,h1.bQ hb,h2⟩⟩
theorem jD3 (a0:Value) (x:Nat) (w:World) (h0:IsS w .u64 a0 (digs 4294967296 x)) :
  Calls prog 102 #[a0] w (zE1 (.agg #[.bool false,a0]) w):=by
 have s0:=h0;obtain ⟨A0,c0,rfl,_⟩:=id s0
 go_enter func102,ntmps102
 go_upto_region 1 with (fail)
 obtain ⟨wx,hwx,bb,BR0,hsz⟩:=zL1 w 42 #[.bool false,.slice none 0 0];rw [hwx];clear hwx;have k0:=s0.bQ bb;have hsz0:=bb.size;have sB:=bb.size;refine zC6 2 [Pd.eq (.slice A0 (digs 4294967296 x).length c0),Pd.eq (.agg #[.bool false,.slice A0 (digs 4294967296 x).length c0])] (by kernel_rfl) ?ob1 ?done1
 case ob1 =>
  refine zA (zC0 rfl (zB5 rfl) (zB7 rfl rfl) (fun _ _ h=>h)) ?_;refine zA (jB rfl (zB5 rfl) (zB6 (j:=0) (by kernel_rfl) rfl rfl) (fun w2 u hb hu=>by obtain rfl:=hu;exact ⟨.agg #[.bool false,.slice A0 (digs 4294967296 x).length c0],by kernel_rfl,rfl⟩)) ?_
  trivial
 case done1 =>
  refine fun w1 hb1 v0 h0 v1 h1 b hbf => ?_;obtain rfl:=h0;obtain rfl:=h1;simp only [Act.put,zA0,zA2,zA1] at hbf;subst hbf;replace BR0:=BR0.bQ hb1;replace k0:=k0.bQ hb1;replace bb:=bb.trans (hb1.mono bb.size);have hsz1:=bb.size;refine zG5 (i:=2) rfl rfl rfl rfl rfl rfl (cells:=[.bool false,.slice A0 (digs 4294967296 x).length c0]) rfl BR0 rfl (by kernel_rfl) (zJ1 rfl rfl) fun w9 hg9 B9 => ?_;have bb9:=bb.trans ((Below.refl _ _).grown hg9 bb.size (fun g hg=>by injection hg with hg;omega));obtain ⟨C0,C1,_,_⟩:=Blk.two B9;refine zC7 ?_;go_wp2;exact bodyPost_ret (v:=.agg #[.bool false,.slice A0 (digs 4294967296 x).length c0]) (by simp [results,results102,go_sem,C0,C1]) rfl ⟨rfl,bb9⟩
theorem qH (a0:Value) (x:Nat) (w:World) (h0:IsS w .u64 a0 (digs 4294967296 x)):Calls prog 102 #[a0] w (zI2 (pi ((x:Nat):Int)) w) :=
 (jD3 a0 x w h0).mono fun e w' h=>⟨_,h.1,zG (h0.bQ h.2) (Int.natAbs_natCast _) (qT (by omega)).symm,h.2⟩
theorem qU0 (a0:Value) (x:Nat) (a1:Value) (y:Nat) (w:World) (h0:IsS w .u64 a0 (digs 4294967296 x)) (h1:IsS w .u64 a1 (digs 4294967296 y)) (hl:(digs 4294967296 x).length<=100000) (hl2:(digs 4294967296 y).length<=100000) :
  Calls prog 115 #[a0,a1] w (zD7 .u64 (digs 4294967296 (x*y)) w):=by
 have s0:=h0;obtain ⟨A0,c0,rfl,_⟩:=id s0;have s1:=h1;obtain ⟨A1,c1,rfl,_⟩:=id s1;have bb:Below w.heap.size w w:=Below.refl _ _;have HM:Hid (((x*y:Nat):Int)=((x:Nat):Int)*((y:Nat):Int)):=Int.natCast_mul x y;have HL1:Hid (zC2 ((x:Nat):Int)<=100000):=by show _<=_;rw [zN6];omega
 have HL2:Hid (zC2 ((y:Nat):Int)<=100000):=by show _<=_;rw [zN6];omega
 go_enter func115,ntmps115
 go_upto_region 1 with (fail)
 have k0:=s0.bQ bb;have k1:=s1.bQ bb;have hsz0:=bb.size;have sB:=bb.size;refine zC6 7 [Pd.eq (.slice A0 (digs 4294967296 x).length c0),pi (((x:Nat):Int)),Pd.eq (.slice A1 (digs 4294967296 y).length c1),pi (((y:Nat):Int)),pz (((x*y:Nat):Int)) w.heap.size,ps .u64 (digs 4294967296 (x*y)) w.heap.size,ps .u64 (digs 4294967296 (x*y)) w.heap.size] (by kernel_rfl) ?ob2 ?done2
 case ob2 =>
  refine zA (zC0 rfl (zB5 rfl) (zB7 rfl rfl) (fun _ _ h=>h)) ?_;refine zA (zE8 rfl func102 (by kernel_rfl) (zB5 rfl) (zB6 (j:=0) (by kernel_rfl) rfl rfl) (fun w2 u0 hb h0=>by obtain rfl:=h0;exact qH _ (x) _ (k0.bQ hb))) ?_;refine zA (zC0 rfl (zB5 rfl) (zB7 rfl rfl) (fun _ _ h=>h)) ?_;refine zA (zE8 rfl func102 (by kernel_rfl) (zB5 rfl) (zB6 (j:=2) (by kernel_rfl) rfl rfl) (fun w2 u0 hb h0=>by obtain rfl:=h0;exact qH _ (y) _ (k1.bQ hb))) ?_;refine zA (zD8 rfl func82 (by kernel_rfl) (zB5 rfl) (zB6 (j:=1) (by kernel_rfl) rfl rfl) (zB6 (j:=3) (by kernel_rfl) rfl rfl) (fun w2 u0 u1 hb h0 h1=>by exact (zZ4 _ _ _ _ _ _ h0 h1 HL1.out HL2.out HM.out).mono fun e w3 h=>zE9.pd h hb.size)) ?_;refine zA (jC4 rfl (zB5 rfl) (zB6 (j:=4) (by kernel_rfl) rfl rfl) (fun w2 u hu=>by obtain ⟨⟨u',rfl,q'⟩,f'⟩:=hu;exact ⟨u',by kernel_rfl,q',f' _ _ rfl⟩)) ?_;refine zA (zE0 rfl (zB5 rfl) (zB6 (j:=5) (by kernel_rfl) rfl rfl) (fun _ _ h=>h)) ?_
  trivial
 case done2 =>
  refine fun w1 hb1 v0 h0 v1 h1 v2 h2 v3 h3 v4 h4 v5 h5 v6 h6 b hbf => ?_;obtain rfl:=h0;obtain rfl:=h2;have q1:=h1;have q3:=h3;obtain ⟨q4,f4⟩:=h4;obtain ⟨q5,f5⟩:=h5;obtain ⟨q6,f6⟩:=h6;simp only [Act.put,zA0,zA2,zA1] at hbf;subst hbf;replace k0:=k0.bQ hb1;replace k1:=k1.bQ hb1;replace bb:=bb.trans (hb1.mono bb.size);have hsz1:=bb.size;have s_4:=sB;have s_5:=sB;have s_6:=sB;refine zC7 ?_;go_wp2;go_ret;exact ⟨_,rfl,q6,f6.mono s_6,bb⟩
theorem qH0 (a0:Value) (z:Int) (a1:Value) (d:Nat) (U:Int) (L:Nat) (w:World) (h0:IsZ w a0 z) (h1:IsS w .u64 a1 (digs 4294967296 d)) (hd:d≠0) (hl:zC2 z<=20000) (hl2:(digs 4294967296 d).length<=20000) (hU:U=(mkRat z d).num) (hL:L=(mkRat z d).den) :
  Calls prog 68 #[a0,a1] w (zW5 U L w):=by
 obtain ⟨u0,rfl,s0⟩:=h0;obtain ⟨A0,c0,rfl,_⟩:=id s0;have s1:=h1;obtain ⟨A1,c1,rfl,_⟩:=id s1;obtain ⟨G,hG⟩:∃ G,G=Nat.gcd z.natAbs d:=⟨_,rfl⟩;have hGp:0<G:=by rw [hG];exact Nat.gcd_pos_of_pos_right _ (by omega)
 have hGd:G<=d:=by rw [hG];exact Nat.le_of_dvd (by omega) (Nat.gcd_dvd_right _ _)
 have HL1:Hid ((digs 4294967296 z.natAbs).length<=90000):=zB4 hl (by decide);have HL2:Hid ((digs 4294967296 d).length<=90000):=zB4 hl2 (by decide);have HL3:Hid (zC2 ((G:Nat):Int)<=20000):=by show _<=_;rw [zN6];exact zB4 (zG1 (by omega) hGd) hl2
 have HL4:Hid ((digs 4294967296 G).length<=90000):=zB4 (zG1 (by omega) hGd) HL2.out;have HG:Hid (zN7 [z.natAbs,d]=G):=by show _=_;rw [hG];simp [zN7]
 have HU:Hid (z=U*((G:Nat):Int)):=by show _=_;rw [hU,hG];exact qT9 z hd
 have HM:Hid (d % G=0):=by show _=_;rw [hG];exact Nat.mod_eq_zero_of_dvd (Nat.gcd_dvd_right _ _)
 have HQ:Hid (L=d / G):=by show _=_;rw [hL,hG];exact zW2 z hd
 have HN:Hid (((G:Nat):Int)≠0):=by show _≠_;omega
 clear hG hU hL hGd
 go_enter func68,ntmps68
 go_upto_region 1 with (fail)
 obtain ⟨wx,hwx,bb,B0,BR0,hsz⟩:=zK3 w 42 42 #[.bool (ngB z),.slice A0 (digs 4294967296 (z).natAbs).length c0] #[.bool false,.slice none 0 0];rw [hwx];clear hwx;have k0s:=s0.bQ bb;have k0:IsZ wx (.agg #[.bool (ngB z),.slice A0 (digs 4294967296 (z).natAbs).length c0]) (z):=zG k0s rfl rfl;have k1:=s1.bQ bb;have hsz0:=bb.size;obtain ⟨x00,x01,_,_⟩:=Blk.two B0;go_wp2_with fail
 have hbA:=zC9 (zB3 wx.heap.size) (.cells #[.slice A0 (digs 4294967296 (z).natAbs).length c0,.slice A1 (digs 4294967296 d).length c1] 40);refine (qT5 _ [_,_] [z.natAbs,d] _ (zS7 wx 40 [_,_]) (qK4 (k0s.bQ hbA) (k1.bQ hbA)) (by simp) (by intro q hq;simp at hq;rcases hq with rfl|rfl;exact HL1.out;exact HL2.out)).mono ?_;rintro e w1 ⟨v1,rfl,kg,kgf,b1⟩;have hb1:=hbA.trans (b1.mono hbA.size);rw [HG.out] at kg;clear x00 x01;replace B0:=B0.bQ hb1;replace k0s:=k0s.bQ hb1;replace k0:=k0.bQ hb1;replace BR0:=BR0.bQ hb1;replace k1:=k1.bQ hb1;replace bb:=bb.trans (hb1.mono bb.size);have hsz1:=bb.size;obtain ⟨Akg,ckg,rfl,_⟩:=id kg;have sB:=bb.size;go_upto_region 2 with (fail);have lt1_2:=Blk.lt B0;have lt1_4:=Blk.lt BR0;refine flowl 8 [Pd.eq (.agg #[.bool (ngB z),.slice A0 (digs 4294967296 (z).natAbs).length c0]),Pd.eq (.slice Akg (digs 4294967296 G).length ckg),pi (((G:Nat):Int)),pze (U) 0 w1.heap.size,pze (U) 0 w1.heap.size,pz (U) w1.heap.size,Pd.eq (.int .i64 0),pn 42 #[.bool false,.slice none 0 0] w1.heap.size] (by kernel_rfl) 6 rfl (by kernel_rfl) (fun _ _ _ _ h=>h) (jC0 rfl rfl (zB6 (j:=4) (by kernel_rfl) rfl rfl) (fun w2 u hu=>by obtain ⟨v,rfl,q1,q2⟩:=hu;exact ⟨_,fun _=>rfl,rfl⟩)) ?ob3 ?done3
 case ob3 =>
  refine zA (zC1 rfl (zB5 rfl) (zB7 rfl rfl) (fun w2 hb=>zF6 underlying42 rfl (by kernel_rfl) (B0.drew.bQ hb)) (fun _ _=>rfl)) ?_;refine zA (zC0 rfl (zB5 rfl) (zB7 rfl rfl) (fun _ _ h=>h)) ?_;refine zA (zE8 rfl func102 (by kernel_rfl) (zB5 rfl) (zB6 (j:=1) (by kernel_rfl) rfl rfl) (fun w2 u0 hb h0=>by obtain rfl:=h0;exact qH _ (G) _ (kg.drew.bQ hb))) ?_;refine zA (zD8 rfl func101 (by kernel_rfl) (zB5 rfl) (zB6 (j:=0) (by kernel_rfl) rfl rfl) (zB6 (j:=2) (by kernel_rfl) rfl rfl) (fun w2 u0 u1 hb h0 h1=>by obtain rfl:=h0;exact (yG6 _ z _ _ U _ (k0.drew.bQ hb) h1 hl HL3.out HN.out HU.out).mono fun e w3 h=>qG1.pd h hb.size)) ?_;refine zA (zC0 rfl (zB5 rfl) (zB6 (j:=3) (by kernel_rfl) rfl rfl) (fun _ _ h=>h)) ?_;refine zA (zF9 rfl (zB5 rfl) (zB6 (j:=4) (by kernel_rfl) rfl rfl) (fun w2 u hu=>by obtain ⟨v,rfl,q1,q2⟩:=hu;exact ⟨v,rfl,q1,q2⟩)) ?_;refine zA (zF9 rfl (zB5 rfl) (zB6 (j:=4) (by kernel_rfl) rfl rfl) (fun w2 u hu=>by obtain ⟨v,rfl,q1,q2⟩:=hu;exact ⟨_,rfl,rfl⟩)) ?_;refine zA (zM9 (z:=.agg #[.bool false,.slice none 0 0]) rfl rfl (fun _=>by kernel_rfl) (fun _ _ hB h=>⟨_,rfl,hB,h⟩)) ?_
  trivial
 case done3 =>
  refine fun w2 hb2 v0 h0 v1 h1 v2 h2 v3 h3 v4 h4 v5 h5 v6 h6 v7 h7 d7 b hbf => ?_;obtain rfl:=h0;obtain rfl:=h1;obtain rfl:=h6;have q2:=h2;clear h3;clear h4;obtain ⟨q5,f5⟩:=h5;obtain ⟨g3_7,rfl,hg7,B7⟩:=h7;simp only [Act.put,zA0,zA2,zA1] at hbf;subst hbf;replace B0:=B0.bQ hb2;replace k0s:=k0s.bQ hb2;replace k0:=k0.bQ hb2;replace BR0:=BR0.bQ hb2;replace k1:=k1.bQ hb2;replace kg:=kg.bQ hb2;replace bb:=bb.trans (hb2.mono bb.size);have hsz2:=bb.size;have s_5:=sB;have BA7:=B7;obtain ⟨u5,rfl,q5⟩:=q5;obtain ⟨A7,c7,rfl,_⟩:=id q5;refine zL8 (i:=8) (by kernel_rfl) rfl rfl rfl rfl rfl rfl (cells:=[.bool (ngB U),.slice A7 (digs 4294967296 (U).natAbs).length c7]) rfl BA7 rfl (by kernel_rfl) (zJ1 rfl rfl) fun w3 hg3 BN3 => ?_;replace q5:=off q5 BA7 no_ints2 hg3;replace k1:=off k1 BA7 no_ints2 hg3;replace kg:=off kg BA7 no_ints2 hg3;replace k0s:=off k0s BA7 no_ints2 hg3;replace k0:IsZ w3 (.agg #[.bool (ngB z),.slice A0 (digs 4294967296 (z).natAbs).length c0]) (z):=⟨_,rfl,k0s⟩;replace B0:=B0.grown hg3 (by omega);replace BR0:=BR0.grown hg3 (by omega);replace bb:=bb.trans ((Below.refl _ _).grown hg3 bb.size (fun g hg=>by injection hg with hg;omega));have hsz3:=bb.size;have B7:Blk w3 (g3_7) _ _:=BN3;have k7s:=q5;have k7:IsZ w3 (.agg #[.bool (ngB U),.slice A7 (digs 4294967296 (U).natAbs).length c7]) (U):=⟨_,rfl,k7s⟩;refine qS9 (i:=9) (.int .i64 0) (by kernel_rfl) rfl rfl rfl rfl rfl fun b hbf => ?_;simp only [Act.put,zA0,zA2,zA1] at hbf;subst hbf;refine zJ0 (by kernel_rfl) ?_;have f7_:=(f5 _ _ rfl).mono s_5;have sB:=bb.size;go_upto_region 3 with (fail);refine zC6 8 [Pd.eq (.slice A1 (digs 4294967296 d).length c1),Pd.eq (.slice Akg (digs 4294967296 G).length ckg),pt .u64 (digs 4294967296 L) 0 w3.heap.size,pt .u64 (digs 4294967296 L) 0 w3.heap.size,ps .u64 (digs 4294967296 L) w3.heap.size,Pd.eq (.int .i64 0),ps .u64 (digs 4294967296 L) w3.heap.size,Pd.eq (.int .i64 0)] (by kernel_rfl) ?ob4 ?done4
  case ob4 =>
   refine zA (zC0 rfl (zB5 rfl) (zB7 rfl rfl) (fun _ _ h=>h)) ?_;refine zA (zC0 rfl (zB5 rfl) (zB7 rfl rfl) (fun _ _ h=>h)) ?_;refine zA (zD8 rfl func81 (by kernel_rfl) (zB5 rfl) (zB6 (j:=0) (by kernel_rfl) rfl rfl) (zB6 (j:=1) (by kernel_rfl) rfl rfl) (fun w2 u0 u1 hb h0 h1=>by obtain rfl:=h0;obtain rfl:=h1;exact (qB4 _ _ d G _ (k1.bQ hb) (kg.bQ hb) HL2.out HL4.out hGp L HM.out HQ.out).mono fun e w3 h=>zO3.pd h hb.size)) ?_;refine zA (zC0 rfl (zB5 rfl) (zB6 (j:=2) (by kernel_rfl) rfl rfl) (fun _ _ h=>h)) ?_;refine zA (zF9 rfl (zB5 rfl) (zB6 (j:=3) (by kernel_rfl) rfl rfl) (fun w2 u hu=>by obtain ⟨v,rfl,q1,q2⟩:=hu;exact ⟨v,rfl,q1,q2⟩)) ?_;refine zA (zF9 rfl (zB5 rfl) (zB6 (j:=3) (by kernel_rfl) rfl rfl) (fun w2 u hu=>by obtain ⟨v,rfl,q1,q2⟩:=hu;exact ⟨_,rfl,rfl⟩)) ?_;refine zA (zE0 rfl (zB5 rfl) (zB6 (j:=4) (by kernel_rfl) rfl rfl) (fun _ _ h=>h)) ?_;refine zA (zE0 rfl (zB5 rfl) (zB6 (j:=5) (by kernel_rfl) rfl rfl) (fun _ _ h=>h)) ?_
   trivial
  case done4 =>
   refine fun w4 hb4 v0 h0 v1 h1 v2 h2 v3 h3 v4 h4 v5 h5 v6 h6 v7 h7 b hbf => ?_;obtain rfl:=h0;obtain rfl:=h1;obtain rfl:=h5;obtain rfl:=h7;clear h2;clear h3;obtain ⟨q4,f4⟩:=h4;obtain ⟨q6,f6⟩:=h6;simp only [Act.put,zA0,zA2,zA1] at hbf;subst hbf;replace B0:=B0.bQ hb4;replace k0s:=k0s.bQ hb4;replace k0:=k0.bQ hb4;replace BR0:=BR0.bQ hb4;replace B7:=B7.bQ hb4;replace k7s:=k7s.bQ hb4;replace k7:=k7.bQ hb4;replace k1:=k1.bQ hb4;replace kg:=kg.bQ hb4;replace bb:=bb.trans (hb4.mono bb.size);have hsz4:=bb.size;have s_4:=sB;have s_6:=sB;refine zC7 ?_;obtain ⟨A9,c9,rfl,_⟩:=id q6;have n9:=q6;have n9f:=f6;have n9z_:=s_6;have sB:=bb.size;go_upto_region 4 with (fail);refine zC6 2 [Pd.eq (.agg #[.bool (ngB U),.slice A7 (digs 4294967296 (U).natAbs).length c7]),Pd.eq (.slice A9 (digs 4294967296 L).length c9)] (by kernel_rfl) ?ob5 ?done5
   case ob5 =>
    refine zA (zC1 rfl (zB5 rfl) (zB7 rfl rfl) (fun w2 hb=>zF6 underlying42 rfl (by kernel_rfl) (B7.bQ hb)) (fun _ _=>rfl)) ?_;refine zA (zC0 rfl (zB5 rfl) (zB7 rfl rfl) (fun _ _ h=>h)) ?_
    trivial
   case done5 =>
    refine fun w5 hb5 v0 h0 v1 h1 b hbf => ?_;obtain rfl:=h0;obtain rfl:=h1;simp only [Act.put,zA0,zA2,zA1] at hbf;subst hbf;replace B0:=B0.bQ hb5;replace k0s:=k0s.bQ hb5;replace k0:=k0.bQ hb5;replace BR0:=BR0.bQ hb5;replace B7:=B7.bQ hb5;replace k7s:=k7s.bQ hb5;replace k7:=k7.bQ hb5;replace k1:=k1.bQ hb5;replace kg:=kg.bQ hb5;replace n9:=n9.bQ hb5;replace bb:=bb.trans (hb5.mono bb.size);have hsz5:=bb.size;refine zG5 (i:=2) rfl rfl rfl rfl rfl rfl (cells:=[.bool (ngB U),.slice A7 (digs 4294967296 (U).natAbs).length c7]) rfl BR0 rfl (by kernel_rfl) (zJ1 rfl rfl) fun wx9 hg9 BX9 => ?_;have m9:=off k7s BR0 no_ints2 hg9;have l9:=off n9 BR0 no_ints2 hg9;have bb9:=bb.trans ((Below.refl _ _).grown hg9 bb.size (fun g hg=>by injection hg with hg;omega));obtain ⟨C0,C1,_,_⟩:=Blk.two BX9;refine zQ5 (i:=3) (.slice A9 (digs 4294967296 L).length c9) rfl rfl rfl rfl rfl fun b hbf => ?_;simp only [Act.put,zA0,zA2,zA1] at hbf;subst hbf;refine zC7 ?_;go_wp2;exact bodyPost_ret (v:=.tuple #[.agg #[.bool (ngB U),.slice A7 (digs 4294967296 (U).natAbs).length c7],.slice A9 (digs 4294967296 L).length c9]) (by simp [results,results68,go_sem,C0,C1]) rfl ⟨_,_,rfl,zG m9 rfl rfl,l9,zM3 f7_,n9f.mono n9z_,bb9⟩
theorem qU1 (a0:Value) (q:Rat) (w:World) (h0:IsQ w a0 q) (hl:zC3 q 100000) :
  Calls prog 85 #[a0] w (RetQ (-q) w):=by
 obtain ⟨u0,t0,rfl,s0,r0⟩:=h0;obtain ⟨A0,c0,rfl,_⟩:=id s0;obtain ⟨D0,e0,rfl,_⟩:=id r0;have HN:Hid (-q.num=(-q).num):=(qC q).1.symm;have HD:Hid (q.den=(-q).den):=(qC q).2.symm
 go_enter func85,ntmps85
 go_upto_region 1 with (fail)
 obtain ⟨wx,hwx,bb,B0,BR0,hsz⟩:=zK3 w 44 44 #[.bool (ngB (q).num),.slice A0 (digs 4294967296 (q).num.natAbs).length c0,.slice D0 (digs 4294967296 (q).den).length e0] #[.bool false,.slice none 0 0,.slice none 0 0];rw [hwx];clear hwx;have k0s:=s0.bQ bb;have k0d:=r0.bQ bb;have k0z:IsZ wx (.agg #[.bool (ngB (q).num),.slice A0 (digs 4294967296 (q).num.natAbs).length c0]) (q).num:=⟨_,rfl,k0s⟩;have k0:IsQ wx (.agg #[.bool (ngB (q).num),.slice A0 (digs 4294967296 (q).num.natAbs).length c0,.slice D0 (digs 4294967296 (q).den).length e0]) (q):=⟨_,_,rfl,k0s,k0d⟩;have hsz0:=bb.size;have sB:=bb.size;refine flow 7 [Pd.eq (.pointer (some ⟨w.heap.size,0,none⟩)),Pd.eq (.agg #[.bool (ngB (q).num),.slice A0 (digs 4294967296 (q).num.natAbs).length c0]),pz ((-q).num) wx.heap.size,Pd.eq (.pointer (some ⟨w.heap.size,2,none⟩)),Pd.eq (.slice D0 (digs 4294967296 (q).den).length e0),ps .u64 (digs 4294967296 (-q).den) wx.heap.size,pq (-q) wx.heap.size] (by kernel_rfl) (by kernel_rfl) ?ob6 ?done6
 case ob6 =>
  refine zA (zC4 rfl (zB5 rfl) (zB7 rfl rfl) (fun _=>by kernel_rfl) (fun _=>rfl)) ?_;refine zA (zC1 rfl (zB5 rfl) (zB6 (j:=0) (by kernel_rfl) rfl rfl) (fun w2 hb=>zW4 underlying42 rfl (by kernel_rfl) (B0.drew.bQ hb) rfl) (fun _ _=>rfl)) ?_;refine zA (zE8 rfl func69 (by kernel_rfl) (zB5 rfl) (zB6 (j:=1) (by kernel_rfl) rfl rfl) (fun w2 u0 hb h0=>by obtain rfl:=h0;exact (yF8 _ q.num _ (k0z.drew.bQ hb) (zB4 hl.1 (by decide))).mono fun e w3 h=>zE9.pd (zE9.to h HN.out) hb.size)) ?_;refine zA (zC4 rfl (zB5 rfl) (zB7 rfl rfl) (fun _=>by kernel_rfl) (fun _=>rfl)) ?_;refine zA (zC1 rfl (zB5 rfl) (zB6 (j:=3) (by kernel_rfl) rfl rfl) (fun w2 hb=>zD underlying40 rfl ((B0.drew.bQ hb).cell 2)) (fun _ _=>rfl)) ?_;refine zA (zE8 rfl func112 (by kernel_rfl) (zB5 rfl) (zB6 (j:=4) (by kernel_rfl) rfl rfl) (fun w2 u0 hb h0=>by obtain rfl:=h0;exact (zV7 _ _ _ (k0d.drew.bQ hb) (zB4 hl.2 (by decide))).mono fun e w3 h=>zD7.pd (zD7.to h (congrArg (digs 4294967296) HD.out)) hb.size)) ?_;refine zA (zM5 rfl (zB5 rfl) (zB6 (j:=2) (by kernel_rfl) rfl rfl) (zB6 (j:=5) (by kernel_rfl) rfl rfl) (fun w2 u v hb hu hv=>by obtain ⟨u7,rfl,hu7⟩:=hu.1;obtain ⟨A7,c7,rfl,_⟩:=id hu7;obtain ⟨A8,c8,rfl,_⟩:=id hv.1;exact ⟨.agg #[.bool (ngB (-q).num),.slice A7 (digs 4294967296 (-q).num.natAbs).length c7,.slice A8 (digs 4294967296 (-q).den).length c8],by kernel_rfl,⟨⟨_,_,rfl,hu7,hv.1⟩,zM4 (hu.2 _ _ rfl) hv.2⟩⟩)) ?_
  trivial
 case done6 =>
  refine fun w11 hb11 v0 h0 v1 h1 v2 h2 v3 h3 v4 h4 v5 h5 v6 h6 b hbf => ?_;obtain rfl:=h0;obtain rfl:=h1;obtain rfl:=h3;obtain rfl:=h4;obtain ⟨q2,f2⟩:=h2;obtain ⟨q5,f5⟩:=h5;obtain ⟨q6,f6⟩:=h6;simp only [Act.put,zA0,zA2,zA1] at hbf;subst hbf;replace B0:=B0.bQ hb11;replace k0s:=k0s.bQ hb11;replace k0d:=k0d.bQ hb11;replace k0z:=k0z.bQ hb11;replace k0:=k0.bQ hb11;replace BR0:=BR0.bQ hb11;replace bb:=bb.trans (hb11.mono bb.size);have hsz11:=bb.size;have s_2:=sB;have s_5:=sB;have s_6:=sB;obtain ⟨u6,t6,rfl,q6,d6⟩:=q6;obtain ⟨A9,c9,rfl,_⟩:=id q6;obtain ⟨D9,e9,rfl,_⟩:=id d6;refine zL8 (i:=7) (by kernel_rfl) rfl rfl rfl rfl rfl rfl (cells:=[.bool (ngB (-q).num),.slice A9 (digs 4294967296 (-q).num.natAbs).length c9,.slice D9 (digs 4294967296 (-q).den).length e9]) rfl BR0 rfl (by kernel_rfl) (zH2 rfl rfl rfl) fun w9 hg9 B9 => ?_;have k9:=off q6 BR0 zD3 hg9;have d9:=off d6 BR0 zD3 hg9;have f9:=f6.mono (show w.heap.size<=_ from s_6);have bb9:=bb.trans ((Below.refl _ _).grown hg9 bb.size (fun g hg=>by injection hg with hg;omega));obtain ⟨C0,C1,C2,_,_,_⟩:=three B9;refine zJ0 (by kernel_rfl) ?_;go_wp2;exact bodyPost_ret (v:=.agg #[.bool (ngB (-q).num),.slice A9 (digs 4294967296 (-q).num.natAbs).length c9,.slice D9 (digs 4294967296 (-q).den).length e9]) (by simp [results,results85,go_sem,C0,C1,C2]) rfl ⟨_,rfl,⟨_,_,rfl,k9,d9⟩,f9,bb9⟩
theorem zR8 (a0:Value) (x:Rat) (t:Int) (w:World) (h0:IsQ w a0 x) (ht:t=zJ4 x.num 0) :
  Calls prog 92 #[a0] w (zE1 (.int .i64 t) w):=by
 obtain ⟨u0,t0,rfl,s0,r0⟩:=h0;obtain ⟨A0,c0,rfl,_⟩:=id s0;obtain ⟨D0,e0,rfl,_⟩:=id r0;have HT:=hQ9 ht;clear ht
 go_enter func92,ntmps92
 go_upto_region 1 with (fail)
 obtain ⟨wx,hwx,bb,B0,hsz⟩:=zL1 w 44 #[.bool (ngB (x).num),.slice A0 (digs 4294967296 (x).num.natAbs).length c0,.slice D0 (digs 4294967296 (x).den).length e0];rw [hwx];clear hwx;have k0s:=s0.bQ bb;have k0d:=r0.bQ bb;have k0z:IsZ wx (.agg #[.bool (ngB (x).num),.slice A0 (digs 4294967296 (x).num.natAbs).length c0]) (x).num:=⟨_,rfl,k0s⟩;have k0:IsQ wx (.agg #[.bool (ngB (x).num),.slice A0 (digs 4294967296 (x).num.natAbs).length c0,.slice D0 (digs 4294967296 (x).den).length e0]) (x):=⟨_,_,rfl,k0s,k0d⟩;have hsz0:=bb.size;have sB:=bb.size;refine zC6 4 [Pd.eq (.pointer (some ⟨w.heap.size,0,none⟩)),Pd.eq (.agg #[.bool (ngB (x).num),.slice A0 (digs 4294967296 (x).num.natAbs).length c0]),Pd.eq (.int .i64 t),Pd.eq (.int .i64 t)] (by kernel_rfl) ?ob7 ?done7
 case ob7 =>
  refine zA (zC4 rfl (zB5 rfl) (zB7 rfl rfl) (fun _=>by kernel_rfl) (fun _=>rfl)) ?_;refine zA (zC1 rfl (zB5 rfl) (zB6 (j:=0) (by kernel_rfl) rfl rfl) (fun w2 hb=>zW4 underlying42 rfl (by kernel_rfl) (B0.bQ hb) rfl) (fun _ _=>rfl)) ?_;refine zA (zE8 rfl func46 (by kernel_rfl) (zB5 rfl) (zB6 (j:=1) (by kernel_rfl) rfl rfl) (fun w2 u0 hb h0=>by obtain rfl:=h0;exact (qC2 _ x.num t _ (k0z.bQ hb) HT.out).mono fun e w3 h=>zE1.pd h)) ?_;refine zA (zE0 rfl (zB5 rfl) (zB6 (j:=2) (by kernel_rfl) rfl rfl) (fun _ _ h=>h)) ?_
  trivial
 case done7 =>
  refine fun w1 hb1 v0 h0 v1 h1 v2 h2 v3 h3 b hbf => ?_;obtain rfl:=h0;obtain rfl:=h1;obtain rfl:=h2;obtain rfl:=h3;simp only [Act.put,zA0,zA2,zA1] at hbf;subst hbf;replace B0:=B0.bQ hb1;replace k0s:=k0s.bQ hb1;replace k0d:=k0d.bQ hb1;replace k0z:=k0z.bQ hb1;replace k0:=k0.bQ hb1;replace bb:=bb.trans (hb1.mono bb.size);have hsz1:=bb.size;refine zC7 ?_;go_wp2;go_ret;exact ⟨rfl,bb⟩
def HoldQ (w:World) (g:Nat) (q:Rat):Prop:=∃ u t,Blk w g 44 #[.bool (ngB q.num),u,t]/\IsS w .u64 u (digs 4294967296 q.num.natAbs)/\IsS w .u64 t (digs 4294967296 q.den)
def zN8 (l:List Rat):Rat:=l.foldl (· + ·) 0
theorem qU2 (l:List Rat) (q:Rat):zN8 (l ++ [q])=zN8 l+q:=by simp [zN8]
theorem zS9 {l:List Rat} {k:Nat} {q:Rat} (h:l[k]?=some q):l.take (k+1)=l.take k ++ [q]:=by rw [bQ9,h];rfl
theorem yH5 {l:List Rat} {m:Nat} (h:∀ q∈l,zC3 q m):zC3 (zN8 l) ((m+1)*l.length+1):=by
  have key:∀ k,k<=l.length->zC3 (zN8 (l.take k)) ((m+1)*k+1):=by
    intro k
    induction k with
    | zero=>intro _;rw [List.take_zero];exact ⟨by show zC2 0<=_;rw [qT1];omega,zG7 (k:=1) (by omega) (by decide +kernel)⟩
    | succ k ih =>
      intro hk;have hq:l[k]?=some (l[k]'hk):=zA3 hk;rw [zS9 hq,qU2];refine (jC5 (ih (by omega)) (h _ (List.getElem_mem hk))).mono ?_;rw [Nat.mul_succ];omega
  have:=key l.length (zB3 _)
  rwa [List.take_length] at this
theorem qM3 {f:Rat->Rat->Rat}:∀ {p q:List Rat} {r:Rat},r∈List.zipWith f p q -> ∃ x∈p,∃ y∈q,r=f x y
  | [],_,_,h=>by simp at h
  | _ :: _,[],_,h=>by simp at h
  | x :: p, y :: q, r, h => by
    rw [List.zipWith_cons_cons] at h;rcases List.mem_cons.1 h with h | h
    · exact ⟨x,List.mem_cons_self,y,List.mem_cons_self,h⟩
    · obtain ⟨a,ha,b,hb,e⟩:=qM3 h;exact ⟨a,List.mem_cons_of_mem _ ha,b,List.mem_cons_of_mem _ hb,e⟩
theorem qU3 {f:Rat->Rat->Rat} {p q:List Rat} {k:Nat} {x y:Rat} (hx:p[k]?=some x) (hy:q[k]?=some y):(List.zipWith f p q)[k]?=some (f x y):=by rw [List.getElem?_zipWith,hx,hy]
theorem qU4 {f:Rat->Rat->Rat} {p q:List Rat} (h:p.length=q.length):(List.zipWith f p q).length=p.length:=by rw [List.length_zipWith,h,Nat.min_self]
def zP4 (p q:List Rat):List Rat:=List.zipWith (fun x y=>x*y) p q
def zI8 (p q:List Rat):Rat:=zN8 (zP4 p q)
def zJ5 (p:List Rat) (k:Rat) (q:List Rat):List Rat:=List.zipWith (fun x y=>x-k*y) p q
def zH3 (p:List Rat) (k:Rat):List Rat:=p.map (fun x=>x*k)
theorem jD4 {p q:List Rat} {m:Nat} (h:∀ x∈p,zC3 x m) (h2:∀ x∈q,zC3 x m):∀ r∈zP4 p q,zC3 r (m+m):=by
 intro r hr;obtain ⟨x,hx,y,hy,rfl⟩:=qM3 hr;exact qG2 (h x hx) (h2 y hy)
theorem jD5 {p q:List Rat} {m:Nat} (h:∀ x∈p,zC3 x m) (h2:∀ x∈q,zC3 x m) (he:p.length=q.length):zC3 (zI8 p q) ((m+m+1)*p.length+1):=by
 have:=yH5 (jD4 h h2)
 rwa [show (zP4 p q).length=p.length from qU4 he] at this
def yH6 (l:List Rat):Prop:=(∀ q∈l,¬ q<0 /\ ¬ 1<q)/\zN8 l=1
instance (l:List Rat):Decidable (yH6 l):=by unfold yH6;infer_instance
end rat
namespace rat
open Go.RowKit Go.ChangeShapes Go.WideShapes Go.ChangeAt Go.Joins Go.Deep num mem nat txt str flow whl
def zZ6 (w:World) (v:Value):Prop:=∃ A n c,v=.slice A n c/\n<=c/\c<=maxLen /\ ∀ i,i<n -> ∃ ad b u t l m,A=some ad/\w.cell? (ad.add (i*3))=some (.bool b)/\w.cell? (ad.add (i*3+1))=some u/\w.cell? (ad.add (i*3+2))=some t/\IsS w .u64 u l/\Lt 18446744073709551616 l/\IsS w .u64 t m/\Lt 18446744073709551616 m
theorem trod_q {H:Type} {enc:TypeId × Value->H} {P:Program} {W:World} {fuel:Nat} {t e:TypeId} {f0 f1 g0 g1:Field} {c0 c1 c2:Value} {x:DataW H × List MemPlace} (hs:P.underlying t=some (.struct #[f0,f1])) (ho:(f0.offset == 0 && f1.offset == 2 && P.cellsOf f0.type == 2 && P.cellsOf f1.type == 1)=true)
    (hs2:P.underlying f0.type=some (.struct #[g0,g1])) (hone:oneCellFields P #[g0,g1]=true) (hb:P.underlying g0.type=some .bool) (hsl:P.underlying g1.type=some (.slice e)) (hsl2:P.underlying f1.type=some (.slice e)) (he:P.underlying e=some (.int .u64)) (ce:P.cellsOf e=1)
    (hf:DataW.trod enc P W 0 (fun _=>true) true fuel t [c0,c1,c2]=some x):∃ b l m,c0=.bool b/\IsS W .u64 c1 l/\Lt 18446744073709551616 l/\IsS W .u64 c2 m/\Lt 18446744073709551616 m:=by
  simp only [Bool.and_eq_true,beq_iff_eq] at ho;obtain ⟨⟨⟨o0,o1⟩,k0⟩,k1⟩:=ho;obtain ⟨xs,n,_,hx,_,hlen,hg⟩:=DataW.trod_struct hs hf;have h0:=hg 0 f0 rfl;have h1:=hg 1 f1 rfl;simp [o0,o1,k0,k1] at h0 h1
  match xs,hlen with
  | [y0, y1], _ =>
    have h0':DataW.trod enc P W 0 (fun _=>true) true n f0.type [c0,c1]=some y0:=by simpa using h0
    have h1':DataW.trod enc P W 0 (fun _=>true) true n f1.type [c2]=some y1:=by simpa using h1
    obtain ⟨zs,n2,_,hz,_,hlen2,hg2⟩:=DataW.trod_struct hs2 h0';obtain ⟨p0,q0⟩:=hone_of hone 0 g0 rfl;obtain ⟨p1,q1⟩:=hone_of hone 1 g1 rfl;have j0:=hg2 0 g0 rfl;have j1:=hg2 1 g1 rfl;simp [p0,p1,q0,q1] at j0 j1
    match zs,hlen2 with
    | [z0, z1], _ =>
      have j0':DataW.trod enc P W 0 (fun _=>true) true n2 g0.type [c0]=some z0:=by simpa using j0
      have j1':DataW.trod enc P W 0 (fun _=>true) true n2 g1.type [c1]=some z1:=by simpa using j1
      obtain ⟨b,e0,_⟩:=DataW.trod_bool hb j0';injection e0 with e0 _;subst e0;obtain ⟨l,a1,a2⟩:=yG7 hsl he ce j1';obtain ⟨m,b1,b2⟩:=yG7 hsl2 he ce h1';exact ⟨b,l,m,rfl,a1,a2,b1,b2⟩
theorem jD6 {P:Program} {t e:TypeId} (hu:P.underlying t=some (.slice e)) (hs:(P.info? e).map (·.size)=some 3) (ad:Addr) {n c k:Nat} (hk:k<n) (w:World):(Instr.indexAt t (.slice (some ad) n c) (.int .i64 (k:Int))).run P w=.ok (.pointer (some (ad.add (k*3)))) w:=by
  cases hq:P.info? e with
  | none=>simp [hq] at hs
  | some inf =>
    have hsz:inf.size=3:=by simpa [hq] using hs
    simp [Instr.indexAt,asIntOf,go_sem,run_underlying hu,sizeOf,typeInfo,hq,hsz,hk]
theorem jD7 {P:Program} {t:TypeId} {p:Addr} {k:Nat} {x y z:Value} {d:TypeDesc} {w:World} (hu:P.underlying t=some d) (hd:d.isRow=true) (hi:(P.info? t).map (·.size)=some 3) (h0:w.cell? (p.add k)=some x) (h1:w.cell? (p.add (k+1))=some y) (h2:w.cell? (p.add (k+2))=some z):(Instr.loadAt t (.pointer (some (p.add k)))).run P w=.ok (.agg #[x,y,z]) w:=by
  have hl:(loadCells (p.add k) 3).run P w=.ok [x,y,z].toArray w :=
    run_loadCells_list (P:=P) w (p.add k) [x,y,z] (fun j v hj=>by
      rw [add_add]
      match j,hj with
      | 0,hj=>simp at hj;subst hj;exact h0
      | 1,hj=>simp at hj;subst hj;exact h1
      | 2,hj=>simp at hj;subst hj;exact h2
      | j+3,hj=>simp at hj)
  cases hq:P.info? t with
  | none=>simp [hq] at hi
  | some i =>
    have hs:i.size=3:=by simpa [hq] using hi
    have hagg:(isAgg t).run P w=.ok true w:=by
      unfold isAgg;rw [Sem.run_bind,run_underlying hu w];cases d<;>simp_all
    have hv:(loadVar t (p.add k)).run P w=.ok (.agg #[x,y,z]) w:=by simp [loadVar,Sem.run_bind,hagg,sizeOf,typeInfo,hq,hs,hl]
    simp only [Instr.loadAt,Instr.sureAddr,Sem.run_bind,Sem.run_pure,Result.andThen_ok,hv]
end rat
namespace rat
open Go.RowKit num mem nat txt str flow whl
section
variable {P:Program}
def zH4 (w w':World) (v v':Value):Prop:=qK7 w w' v v'/\w.grownBy w' v.ownBlock /\ ∀ g,g<w.heap.size->v.ownBlock≠some g->v'.ownBlock≠some g
theorem jD8 {w:World} {base:Nat} {t ty T:TypeId} (hT:P.underlying t=some (.slice T)) (hI:∃ i,P.info? T=some i/\i.zero=some (.agg #[.bool false,.slice none 0 0,.slice none 0 0])/\i.size=3/\i.bytes=56) {v:Value} {p:Elt} {ps:List Elt} (hown:zD0 T w base v ps) {ad:Addr} {c:Nat}
  (h0:w.cell? (ad.add 0)=some (.bool (ngB p.1.num))) (h1:w.cell? (ad.add 1)=some p.2.1) (h2:w.cell? (ad.add 2)=some p.2.2) (k1:p.2.1.oneCell'=true) (k2:p.2.2.oneCell'=true) (hlen:ps.length<=1000000000) (hbase:base<=w.heap.size) :
  ∃ v' w',(Builtin.append_ #[t,t] ty #[v,.slice (some ad) 1 c]).run P w=.ok v' w'/\zD0 T w' base v' (ps ++ [p])/\zH4 w w' v v':=by
 obtain ⟨i,hi,hz,hs,hb⟩:=hI
 obtain ⟨v',w',g1,g2,g3,_,g5⟩:=run_append_own_at (P:=P) w base t ty T i (.agg #[.bool false,.slice none 0 0,.slice none 0 0]) 3 56 hT hi hz hs hb rfl (by decide) v ps.length (zF1 ps) hown ad 1 c [.bool (ngB p.1.num),p.2.1,p.2.2] rfl (fun j u hu=>by
  match j,hu with
  | 0,hu=>simp at hu;subst hu;exact h0
  | 1,hu=>simp at hu;subst hu;exact h1
  | 2,hu=>simp at hu;subst hu;exact h2
  | j+3,hu=>simp at hu) (zH2 rfl k1 k2) (by unfold maxLen;omega) (by omega) hbase
 refine ⟨v',w',g1,by unfold zD0;rw [zA8,jC6];exact g2,qS2 g3 g5,g3,fun g hg hne e1 => ?_⟩;rcases g5 with h | h
 ·exact hne (h ▸ e1)
 ·rw [h] at e1;injection e1 with e1;omega
theorem yH7 {w:World} {o:Oper} {a:Act} {K:Act->World->Prop} {Q:Exit->Act->World->Prop} (s x:Operand) {t:TypeId}
  (ho:o.op=.call { callee:=.builtin .append,args:=#[s,x],argTypes:=#[t,t] })
  {base:Nat} {T:TypeId} (hT:P.underlying t=some (.slice T)) (hI:∃ i,P.info? T=some i/\i.zero=some (.agg #[.bool false,.slice none 0 0,.slice none 0 0])/\i.size=3/\i.bytes=56) {v:Value} {p:Elt} {ps:List Elt} (hs:a.eval s=v) (hown:zD0 T w base v ps) {ad:Addr} {c:Nat} (hx:a.eval x=.slice (some ad) 1 c)
  (h0:w.cell? (ad.add 0)=some (.bool (ngB p.1.num))) (h1:w.cell? (ad.add 1)=some p.2.1) (h2:w.cell? (ad.add 2)=some p.2.2) (k1:p.2.1.oneCell'=true) (k2:p.2.2.oneCell'=true) (hlen:ps.length<=1000000000) (hbase:base<=w.heap.size)
  (h:∀ v' w',zD0 T w' base v' (ps ++ [p])->Below base w w'->Hid (zH4 w w' v v')->K (a.put o.dst v') w'):o.wp P a w K Q:=by
 obtain ⟨v',w',hrun,g2,g3⟩:=jD8 (P:=P) (ty:=o.type) hT hI hown (c:=c) h0 h1 h2 k1 k2 hlen hbase;unfold Oper.wp execOp;simp only [ho,resolve,invoke,builtin,Sem.run_bind,Sem.run_pure,Result.andThen_ok,bX7,List.map_cons,List.map_nil,hs,hx,hrun];exact h v' w' g2 ((Below.refl base w).grown g3.2.1 hbase hown.base_le) g3
theorem qH1 {w:World} {ops:Array Oper} {o:Oper} {a:Act} {K:Act->World->Prop} {Q:Exit->Act->World->Prop} {E:Prop} (hgd:o.guard=none) (s x:Operand) {t:TypeId}
  (ho:o.op=.call { callee:=.builtin .append,args:=#[s,x],argTypes:=#[t,t] })
  {base:Nat} {T:TypeId} (hT:P.underlying t=some (.slice T)) (hI:∃ i,P.info? T=some i/\i.zero=some (.agg #[.bool false,.slice none 0 0,.slice none 0 0])/\i.size=3/\i.bytes=56) {v:Value} {p:Elt} {ps:List Elt} (hs:a.eval s=v) (hown:zD0 T w base v ps) {ad:Addr} {c:Nat} (hx:a.eval x=.slice (some ad) 1 c)
  (h0:w.cell? (ad.add 0)=some (.bool (ngB p.1.num))) (h1:w.cell? (ad.add 1)=some p.2.1) (h2:w.cell? (ad.add 2)=some p.2.2) (k1:p.2.1.oneCell'=true) (k2:p.2.2.oneCell'=true) (hlen:ps.length<=1000000000) (hbase:base<=w.heap.size)
  (h:∀ v' w',zD0 T w' base v' (ps ++ [p])->Below base w w'->Hid (zH4 w w' v v')->K (a.put o.dst v') w') :
  if Region.wanted o (yielded ops a.tmps)=true then Oper.wp P o a w K Q else E:=by
 have hw:Region.wanted o (yielded ops a.tmps)=true:=by simp [Region.wanted,hgd]
 rw [if_pos hw];exact yH7 s x ho hT hI hs hown hx h0 h1 h2 k1 k2 hlen hbase h
end
theorem qC4 (w:World) (T:TypeId) (x y z:Value):(w.alloc (.cells #[x,y,z] T)).cell? ((⟨w.heap.size,0,none⟩:Addr).add 0)=some x/\(w.alloc (.cells #[x,y,z] T)).cell? ((⟨w.heap.size,0,none⟩:Addr).add 1)=some y/\(w.alloc (.cells #[x,y,z] T)).cell? ((⟨w.heap.size,0,none⟩:Addr).add 2)=some z:=by
 have h:=Blk.new w T #[x,y,z];obtain ⟨a,b,c,_,_,_⟩:=three h;exact ⟨a,b,c⟩
theorem zH.keep {k:IntKind} {B:Nat} {w w':World} {v v':Value} {ps:List Elt} (h:zH k B w v ps) (hk:qK7 w w' v v'):zH k B w' v' ps:=fun r hr=>by
 obtain ⟨⟨a1,a2⟩,b1,b2⟩:=h r hr;have x1:=hk _ _ _ a1 b1;have x2:=hk _ _ _ a2 b2;exact ⟨⟨x1.1,x2.1⟩,x1.2,x2.2⟩
def zP5 (w wr:World) (v4 v5:Value) (ps rs:List Elt):Prop:=zD0 44 wr w.heap.size v4 ps/\zD0 54 wr w.heap.size v5 rs/\(zH .u64 4294967296 wr v4 ps/\zH .u64 4294967296 wr v5 ps)/\(zH .i64 10000 wr v4 rs/\zH .i64 10000 wr v5 rs)/\(∀ g,v4.ownBlock=some g->v5.ownBlock≠some g)/\Below w.heap.size w wr
theorem zP5.bQ {w wr w':World} {v4 v5:Value} {ps rs:List Elt} (h:zP5 w wr v4 v5 ps rs) (hb:Below wr.heap.size wr w'):zP5 w w' v4 v5 ps rs :=
 ⟨h.1.bQ hb,h.2.1.bQ hb,⟨h.2.2.1.1.bQ hb,h.2.2.1.2.bQ hb⟩,⟨h.2.2.2.1.1.bQ hb,h.2.2.2.1.2.bQ hb⟩,h.2.2.2.2.1,h.2.2.2.2.2.trans (hb.mono h.2.2.2.2.2.size)⟩
theorem zP5.one {w wr w':World} {v4 v5 v':Value} {ps rs:List Elt} {p:Elt} (h:zP5 w wr v4 v5 ps rs) (hrow:zD0 44 w' w.heap.size v' (ps ++ [p])) (hg:zH4 wr w' v4 v') (hb:Below w.heap.size wr w') (hp:IsE .u64 4294967296 wr p) (f4:Far v4 p.2.1/\Far v4 p.2.2) (f5:Far v5 p.2.1/\Far v5 p.2.2):zP5 w w' v' v5 (ps ++ [p]) rs:=by
 obtain ⟨h1,h2,⟨h3,h4⟩,⟨h5,h6⟩,h7,h8⟩:=h;obtain ⟨k1,k2,k3⟩:=hg
 have keep:∀ {k:IntKind} {B:Nat} {r:Elt},IsE k B wr r->Far v4 r.2.1->Far v4 r.2.2->IsE k B w' r/\Far v' r.2.1/\Far v' r.2.2:=fun a b c=>by
  have x1:=k1 _ _ _ a.1 b;have x2:=k1 _ _ _ a.2 c;exact ⟨⟨x1.1,x2.1⟩,x1.2,x2.2⟩
 refine ⟨hrow,h2.other k2 (fun g hg e=>h7 g e hg),⟨h3.snoc k1 hp f4.1 f4.2,?_⟩,⟨h5.keep k1,?_⟩,?_,h8.trans hb⟩
 ·intro r hr;rcases List.mem_append.1 hr with hr | hr
  ·exact ⟨(keep (h3 r hr).1 (h3 r hr).2.1 (h3 r hr).2.2).1,(h4 r hr).2⟩
  ·obtain rfl:=List.mem_singleton.1 hr;exact ⟨(keep hp f4.1 f4.2).1,f5⟩
 ·intro r hr;exact ⟨(keep (h5 r hr).1 (h5 r hr).2.1 (h5 r hr).2.2).1,(h6 r hr).2⟩
 ·intro g e4 e5;have hlt:=h2.under g e5;exact k3 g hlt (fun e=>h7 g e e5) e4
theorem zP5.two {w wr w':World} {v4 v5 v':Value} {ps rs:List Elt} {p:Elt} (h:zP5 w wr v4 v5 ps rs) (hrow:zD0 54 w' w.heap.size v' (rs ++ [p])) (hg:zH4 wr w' v5 v') (hb:Below w.heap.size wr w') (hp:IsE .i64 10000 wr p) (f4:Far v4 p.2.1/\Far v4 p.2.2) (f5:Far v5 p.2.1/\Far v5 p.2.2):zP5 w w' v4 v' ps (rs ++ [p]):=by
 obtain ⟨h1,h2,⟨h3,h4⟩,⟨h5,h6⟩,h7,h8⟩:=h;obtain ⟨k1,k2,k3⟩:=hg
 have keep:∀ {k:IntKind} {B:Nat} {r:Elt},IsE k B wr r->Far v5 r.2.1->Far v5 r.2.2->IsE k B w' r/\Far v' r.2.1/\Far v' r.2.2:=fun a b c=>by
  have x1:=k1 _ _ _ a.1 b;have x2:=k1 _ _ _ a.2 c;exact ⟨⟨x1.1,x2.1⟩,x1.2,x2.2⟩
 refine ⟨h1.other k2 (fun g hg e=>h7 g hg e),hrow,⟨?_,h4.keep k1⟩,⟨?_,h6.snoc k1 hp f5.1 f5.2⟩,?_,h8.trans hb⟩
 ·intro r hr;exact ⟨(keep (h4 r hr).1 (h4 r hr).2.1 (h4 r hr).2.2).1,(h3 r hr).2⟩
 ·intro r hr;rcases List.mem_append.1 hr with hr | hr
  ·exact ⟨(keep (h6 r hr).1 (h6 r hr).2.1 (h6 r hr).2.2).1,(h5 r hr).2⟩
  ·obtain rfl:=List.mem_singleton.1 hr;exact ⟨(keep hp f5.1 f5.2).1,f4⟩
 ·intro g e4 e5;have hlt:=h1.under g e4;exact k3 g hlt (fun e=>h7 g e4 e) e5
theorem slF_nil (k:IntKind) (B:Nat) (w:World):SlF k B w (.slice none 0 0) []:=⟨[],rfl,⟨none,0,rfl,by simp,by unfold maxLen;omega,fun i p hp=>by simp at hp⟩,fun p hp=>by cases hp⟩
theorem qH2 {P:Program} {t e:TypeId} (hu:P.underlying t=some (.slice e)) (hs:(P.info? e).map (·.size)=some 1) (ad:Addr) {n c k:Nat} (hk:k<n) (w:World):(Instr.indexAt t (.slice (some ad) n c) (.int .i64 (k:Int))).run P w=.ok (.pointer (some (ad.add k))) w:=by
  cases hq:P.info? e with
  | none=>simp [hq] at hs
  | some inf =>
    have hsz:inf.size=1:=by simpa [hq] using hs
    simp [Instr.indexAt,asIntOf,go_sem,run_underlying hu,sizeOf,typeInfo,hq,hsz,hk]
theorem jD9 (l:List Rat):∀ a:Rat,l.foldl (· + ·) a=a+l.foldl (· + ·) 0:=by
 induction l with
 | nil=>intro a;simp [Rat.add_zero]
 | cons b l ih=>intro a;rw [List.foldl_cons,List.foldl_cons,ih (a+b),ih (0+b)];grind
theorem jE (q:Rat) (l:List Rat):zN8 (q :: l)=q+zN8 l:=by
 unfold zN8;rw [List.foldl_cons,jD9 l (0+q)];grind
theorem qM4 (p:List Rat) (k:Rat):(zH3 p k).length=p.length:=zA9 _
theorem qU5 {p q:List Rat} {k:Rat} (h:p.length=q.length):(zJ5 p k q).length=p.length:=qU4 h
theorem qM5 (x y:Rat) (p q:List Rat):zI8 (x :: p) (y :: q)=x*y+zI8 p q:=by
 unfold zI8 zP4;rw [List.zipWith_cons_cons,jE]
theorem jE0 (q:List Rat):zI8 [] q=0:=rfl
def zL2 (d:Nat):List Rat:=zB d 0
def zW6 (d k:Nat):List Rat:=(zL2 d).set k 1
theorem qC5 (d:Nat):(zL2 d).length=d:=List.length_replicate
theorem qU6 (d k:Nat):(zW6 d k).length=d:=by rw [zW6,zB2,qC5]
theorem jE1 {d k:Nat} (h:k<d):(zL2 d)[k]?=some 0:=by simp [zL2,h]
theorem jE2 {d k:Nat} (h:k<d):(zW6 d k)[k]?=some 1:=by rw [zW6,bQ3 (by rw [qC5];exact h)]
theorem qU7 {x:Rat} (h:x=0\/x=1):zC3 x 1:=by
 rcases h with rfl|rfl
 ·exact ⟨by show zC2 0<=_;rw [qT1];omega,zG7 (k:=1) (by omega) (by decide +kernel)⟩
 ·exact ⟨zG7 (k:=1) (by omega) (by decide +kernel),zG7 (k:=1) (by omega) (by decide +kernel)⟩
def zC:List (List Rat)->Nat
 | []=>0
 | r :: _=>r.length
def zR9 (t:List (List Rat)):Prop:=∀ r∈t,r.length=zC t
def zJ8 (t:List (List Rat)) (j:Nat):List Rat:=t.map fun r=>r.getD j 0
def zQ9 (r:List Rat) (b:List (List Rat)) (n:Nat):List Rat:=(List.range n).map fun j=>zI8 r (zJ8 b j)
def zI (a b:List (List Rat)):List (List Rat):=a.map fun r=>zQ9 r b (zC b)
def zG8 (t:List (List Rat)):List (List Rat):=(List.range (zC t)).map (zJ8 t)
theorem qC6 (t:List (List Rat)) (j:Nat):(zJ8 t j).length=t.length:=zA9 _
theorem jE3 (r:List Rat) (b:List (List Rat)) (n:Nat):(zQ9 r b n).length=n:=by rw [zQ9,zA9,List.length_range]
theorem qM6 (a b:List (List Rat)):(zI a b).length=a.length:=zA9 _
theorem qU8 (t:List (List Rat)):(zG8 t).length=zC t:=by rw [zG8,zA9,List.length_range]
theorem yH8 {r:List Rat} {b:List (List Rat)} {n j:Nat} (h:j<n):(zQ9 r b n)[j]?=some (zI8 r (zJ8 b j)):=by simp [zQ9,h]
theorem mulq_at {a b:List (List Rat)} {i:Nat} {r:List Rat} (h:a[i]?=some r):(zI a b)[i]?=some (zQ9 r b (zC b)):=by rw [zI,zB1,h];rfl
theorem jE4 {t:List (List Rat)} {j:Nat} (h:j<zC t):(zG8 t)[j]?=some (zJ8 t j):=by simp [zG8,h]
theorem qU9 {t:List (List Rat)} {n:Nat} (hne:t≠[]) (h:∀ r∈t,r.length=n):zC t=n:=by
 cases t with
 | nil=>exact absurd rfl hne
 | cons r t=>exact h r List.mem_cons_self
theorem jE5 {t:List (List Rat)} {n:Nat} (h:∀ r∈t,r.length=n):zR9 t:=by
 intro r hr;rw [qU9 (List.ne_nil_of_mem hr) h];exact h r hr
theorem qV {a b:List (List Rat)}:∀ r∈zI a b,r.length=zC b:=by
 intro r hr;obtain ⟨s,_,rfl⟩:=List.mem_map.1 hr;exact jE3 _ _ _
theorem qM7 {t:List (List Rat)}:∀ r∈zG8 t,r.length=t.length:=by
 intro r hr;obtain ⟨j,_,rfl⟩:=List.mem_map.1 hr;exact qC6 _ _
theorem jE6 (t:List (List Rat)):zR9 (zG8 t):=jE5 qM7
theorem jE7 {α : Type} {l:List α} (h:0<l.length):l≠[]:=List.length_pos_iff.1 h
theorem jE8 {t:List (List Rat)} (h:0<zC t):zC (zG8 t)=t.length:=qU9 (jE7 (by rw [qU8];exact h)) qM7
theorem getD_at {r:List Rat} {j:Nat} (h:j<r.length):r[j]?=some (r.getD j 0):=by rw [zA6,zA3 h];rfl
theorem getD_of {r:List Rat} {j:Nat} {x:Rat} (h:r[j]?=some x):r.getD j 0=x:=by rw [zA6,h];rfl
theorem jE9 {r:List Rat} {b:List (List Rat)} {n j:Nat} (h:j<n):(zQ9 r b n).getD j 0=zI8 r (zJ8 b j):=by rw [zA6,yH8 h];rfl
theorem yH9:∀ (p q:List Rat),zI8 p q=zI8 q p
 | [],[]=>rfl
 | [],_ :: _=>rfl
 | _ :: _,[]=>rfl
 | x :: p,y :: q=>by rw [qM5,qM5,yH9 p q,Rat.mul_comm]
def zF5 (t:List (List Rat)):Prop:=t.length<=200/\zC t<=200/\zR9 t
instance (t:List (List Rat)):Decidable (zR9 t):=inferInstanceAs (Decidable (∀ r∈t,r.length=zC t))
instance (t:List (List Rat)):Decidable (zF5 t):=inferInstanceAs (Decidable (_/\_/\_))
def tst (t:List (List Rat)) (r i:Nat):List (List Rat):=(List.range (zC t)).map fun j=>zJ8 (t.take (if j<i then r+1 else r)) j
theorem qC7 (t:List (List Rat)) (r i:Nat):(tst t r i).length=zC t:=by rw [tst,zA9,List.length_range]
theorem jF (t:List (List Rat)):tst t 0 0=zB (zC t) []:=by
 refine bX0 fun j => ?_
 by_cases hj:j<zC t
 ·simp [tst,hj,zJ8]
 ·rw [bW4 (by rw [qC7];omega),bW4 (by simp;omega)]
theorem qH3 {t:List (List Rat)} {r i j:Nat} (h:j<zC t):(tst t r i)[j]?=some (zJ8 (t.take (if j<i then r+1 else r)) j):=by simp [tst,h]
theorem jF0 {t:List (List Rat)} {r i:Nat} (h:i<zC t):(tst t r i)[i]?=some (zJ8 (t.take r) i):=by rw [qH3 h,if_neg (by omega)]
theorem jF1 {t:List (List Rat)} {r j:Nat} {row:List Rat} {x:Rat} (hr:t[r]?=some row) (hx:row[j]?=some x):zJ8 (t.take (r+1)) j=zJ8 (t.take r) j ++ [x]:=by
 rw [bQ9,hr];unfold zJ8;rw [List.map_append];exact congrArg (_ ++ [·]) (getD_of hx)
theorem tst_set {t:List (List Rat)} {r i:Nat} {row:List Rat} {x:Rat} (hi:i<zC t) (hr:t[r]?=some row) (hx:row[i]?=some x):(tst t r i).set i (zJ8 (t.take r) i ++ [x])=tst t r (i+1):=by
 refine bX0 fun j => ?_
 by_cases hj:j<zC t
 ·rw [qH3 hj];by_cases e:i=j
  ·subst e;rw [bQ3 (by rw [qC7];exact hj),if_pos (by omega),jF1 hr hx]
  ·rw [bW1 e,qH3 hj];by_cases e2:j<i
   ·rw [if_pos e2,if_pos (by omega)]
   ·rw [if_neg e2,if_neg (by omega)]
 ·rw [bW4 (by rw [zB2,qC7];omega),bW4 (by rw [qC7];omega)]
theorem jF2 (t:List (List Rat)) (r:Nat):tst t r (zC t)=tst t (r+1) 0:=by
 refine bX0 fun j => ?_
 by_cases hj:j<zC t
 ·rw [qH3 hj,qH3 hj,if_pos hj,if_neg (by omega)]
 ·rw [bW4 (by rw [qC7];omega),bW4 (by rw [qC7];omega)]
theorem tst_end (t:List (List Rat)):tst t t.length 0=zG8 t:=by
 refine List.map_congr_left fun j hj => ?_;rw [if_neg (by omega),zA7 (zB3 _)]
def jst {α : Type} (P t:List (List α)) (k:Nat):List (List α):=List.zipWith (· ++ ·) (P.take k) (t.take k) ++ P.drop k
def zF0 {α : Type} (P t:List (List α)):List (List α):=List.zipWith (· ++ ·) P t
theorem jF3 {α : Type} (P t:List (List α)):jst P t 0=P:=by simp [jst]
theorem jF4 {α : Type} {P t:List (List α)} {k:Nat} (h:P.length=t.length) (hk:k=t.length):jst P t k=zF0 P t:=by
 subst hk;unfold jst zF0;rw [zA7 (by omega),zA7 (zB3 _),List.drop_eq_nil_of_le (by omega),List.append_nil]
theorem qM8 {α : Type} {P t:List (List α)} {k:Nat} (h:P.length=t.length) (hk:k<=t.length):(List.zipWith (· ++ ·) (P.take k) (t.take k)).length=k:=by
 rw [List.length_zipWith,bQ7,bQ7];omega
theorem jst_at {α : Type} {P t:List (List α)} {k:Nat} {p:List α} (h:P.length=t.length) (hp:P[k]?=some p):(jst P t k)[k]?=some p:=by
 have hk:=(zA4.1 hp).1;unfold jst;rw [bW0 (by rw [qM8 h (by omega)];exact zB3 _),qM8 h (by omega),Nat.sub_self,List.getElem?_drop,Nat.add_zero,hp]
theorem jst_set {α : Type} {P t:List (List α)} {k:Nat} {p r:List α} (h:P.length=t.length) (hp:P[k]?=some p) (hr:t[k]?=some r):(jst P t k).set k (p ++ r)=jst P t (k+1):=by
 have hk:=(zA4.1 hp).1
 have hd:P.drop k=p :: P.drop (k+1):=by
  have e:P[k]=p:=by rw [zA3 hk] at hp;exact Option.some.inj hp
  rw [<- e];exact List.drop_eq_getElem_cons hk
 unfold jst;rw [List.set_append_right _ _ (by rw [qM8 h (by omega)];exact zB3 _),qM8 h (by omega),Nat.sub_self,hd,zA2,bQ9,hp,bQ9,hr,List.zipWith_append (by rw [bQ7,bQ7];omega)];simp
theorem qV0 {α : Type} (t:List (List α)):zF0 (zB t.length []) t=t:=by
 refine bX0 fun i => ?_;unfold zF0;rw [List.getElem?_zipWith]
 cases ht:t[i]? with
 | none=>cases (zB t.length ([]:List α))[i]?<;>rfl
 | some r=>rw [List.getElem?_replicate,if_pos (zA4.1 ht).1];rfl
def zP6 (t:List (List Rat)) (v:List Rat):List Rat:=t.map fun r=>zI8 r v
theorem jF5 (t:List (List Rat)) (v:List Rat):(zP6 t v).length=t.length:=zA9 _
theorem jF6 {t:List (List Rat)} {v r:List Rat} {i:Nat} (h:t[i]?=some r):(zP6 t v)[i]?=some (zI8 r v):=by rw [zP6,zB1,h];rfl
theorem jF7 (r:List Rat) (b:List (List Rat)):zP6 (zG8 b) r=zQ9 r b (zC b):=by
 unfold zP6 zG8 zQ9;rw [List.map_map];exact List.map_congr_left fun j _=>yH9 _ _
def zD6 (t:List (List Rat)) (m:Nat):Prop:=∀ r∈t,∀ x∈r,zC3 x m
theorem zD6.mono {t:List (List Rat)} {m n:Nat} (h:zD6 t m) (hmn:m<=n):zD6 t n:=fun r hr x hx=>(h r hr x hx).mono hmn
theorem jF8 (m:Nat):zC3 (0:Rat) (m+1):=zC3.mono (m:=1) ⟨zG7 (k:=1) (by omega) (by decide +kernel),zG7 (k:=1) (by omega) (by decide +kernel)⟩ (by omega)
theorem jF9 {r:List Rat} {j m:Nat} (h:∀ x∈r,zC3 x m) (hm:1<=m):zC3 (r.getD j 0) m:=by
 by_cases hj:j<r.length
 ·exact h _ (zA5 (getD_at hj))
 ·rw [zA6,bW4 (by omega)];obtain ⟨n,rfl⟩:∃ n,m=n+1:=⟨m-1,by omega⟩;exact jF8 n
theorem yI {t:List (List Rat)} {j m:Nat} (h:zD6 t m) (hm:1<=m):∀ x∈zJ8 t j,zC3 x m:=by
 intro x hx;obtain ⟨r,hr,rfl⟩:=List.mem_map.1 hx;exact jF9 (h r hr) hm
theorem jG {t:List (List Rat)} {m:Nat} (h:zD6 t m) (hm:1<=m):zD6 (zG8 t) m:=by
 intro r hr;obtain ⟨j,_,rfl⟩:=List.mem_map.1 hr;exact yI h hm
theorem jG0 {a b:List (List Rat)} {m n:Nat} (ha:zD6 a m) (hb:zD6 b m) (hm:1<=m) (he:∀ r∈a,r.length=b.length) (hn:b.length<=n):zD6 (zI a b) ((m+m+1)*n+1):=by
 intro r hr x hx;obtain ⟨s,hs,rfl⟩:=List.mem_map.1 hr;obtain ⟨j,_,rfl⟩:=List.mem_map.1 hx;refine (jD5 (ha s hs) (yI hb hm) (by rw [qC6];exact he s hs)).mono ?_;rw [he s hs];exact Nat.add_le_add_right (Nat.mul_le_mul_left _ hn) _
def zZ7 (ts:List (List (List Rat))):Prop:=ts≠[] /\ ∀ (i:Nat) (t:List (List Rat)),ts[i]?=some t->zF5 t /\ ∀ (s:List (List Rat)),0<i->ts[i-1]?=some s->zC s=t.length
def qM9 (ts:List (List (List Rat))):List (List Rat):=ts.tail.foldl zI (ts.headD [])
def zO7 (n:Nat) (ts:List (List (List Rat))):List (List Rat):=ts.foldl zF0 (zB n [])
def qH4 (T:List (List Rat)) (i j:Nat):Option Rat:=(T[i]?).bind fun r=>r[j]?
def shp (T:List (List Rat)) (R C:Nat):Prop:=T.length=R /\ ∀ r∈T,r.length=C
theorem yI0 {T:List (List Rat)} {i j:Nat} {r:List Rat} {q:Rat} (h:T[i]?=some r) (hq:r[j]?=some q):qH4 T i j=some q:=by unfold qH4;rw [h];exact hq
theorem zI0 {T:List (List Rat)} {R C i:Nat} (hs:shp T R C) (hi:i<R):∃ r,T[i]?=some r/\r.length=C:=by
 have h1:T[i]?=some (T[i]'(by rw [hs.1];exact hi)):=zA3 _;exact ⟨_,h1,hs.2 _ (zA5 h1)⟩
theorem shp_ext {T U:List (List Rat)} {R C:Nat} (h:shp T R C) (h':shp U R C) (he:∀ i j,i<R->j<C->qH4 T i j=qH4 U i j):T=U:=by
 apply bX0;intro i;by_cases hi:i<R
 ·obtain ⟨r,h1,h2⟩:=zI0 h hi;obtain ⟨s,h3,h4⟩:=zI0 h' hi;rw [h1,h3]
  congr 1
  apply bX0;intro j;by_cases hj:j<C
  ·have h5:=he i j hi hj;unfold qH4 at h5;rw [h1,h3] at h5;exact h5
  ·rw [bW4 (by omega),bW4 (by omega)]
 ·rw [bW4 (by rw [h.1];omega),bW4 (by rw [h'.1];omega)]
def zB9:Nat->(Nat->Rat)->Rat
 | 0,_=>0
 | n+1,f=>zB9 n f+f n
theorem zE4:∀ {n:Nat} {f g:Nat->Rat},(∀ i,i<n->f i=g i)->zB9 n f=zB9 n g
  | 0,_,_,_=>rfl
  | n + 1, f, g, h => by
    show zB9 n f+f n=zB9 n g+g n
    rw [zE4 (fun i hi=>h i (by omega)),h n (by omega)]
theorem zT:∀ (n:Nat) (f g:Nat->Rat),zB9 n (fun i=>f i+g i)=zB9 n f+zB9 n g
  | 0,_,_=>by show (0:Rat)=0+0;grind
  | n + 1, f, g => by
    show zB9 n _+(f n+g n)=(zB9 n f+f n)+(zB9 n g+g n)
    rw [zT n f g];grind
theorem zH5:∀ (n:Nat) (c:Rat) (f:Nat->Rat),zB9 n (fun i=>c*f i)=c*zB9 n f
  | 0,c,_=>by show (0:Rat)=c*0;grind
  | n + 1, c, f => by
    show zB9 n _+c*f n=c*(zB9 n f+f n)
    rw [zH5 n c f];grind
theorem zN9:∀ {n:Nat} {f:Nat->Rat},(∀ i,i<n->f i=0)->zB9 n f=0
  | 0,_,_=>rfl
  | n + 1, f, h => by
    show zB9 n f+f n=0
    rw [zN9 (fun i hi=>h i (by omega)),h n (by omega)];grind
theorem zL3:∀ {n:Nat} {f:Nat->Rat} {a:Nat},a<n->(∀ i,i<n->i≠a->f i=0)->zB9 n f=f a
  | 0,_,_,h,_=>by omega
  | n + 1, f, a, ha, h => by
    show zB9 n f+f n=f a
    by_cases e:a=n
    · subst e;rw [zN9 (fun i hi=>h i (by omega) (by omega))];grind
    · rw [zL3 (a:=a) (by omega) (fun i hi hn=>h i (by omega) hn),h n (by omega) (fun e'=>e e'.symm)];grind
theorem yI1 {n:Nat} {f:Nat->Rat} {a b:Nat} (ha:a<n) (hb:b<n) (hab:a≠b) (h:∀ i,i<n->i≠a->i≠b->f i=0):zB9 n f=f a+f b:=by
 have e:zB9 n f=zB9 n (fun i=>(if i=a then f a else 0)+(if i=b then f b else 0)):=zE4 fun i hi=>by
  by_cases e1:i=a
  ·subst e1;rw [if_pos rfl,if_neg hab];grind
  ·by_cases e2:i=b
   ·subst e2;rw [if_neg e1,if_pos rfl];grind
   ·rw [if_neg e1,if_neg e2,h i hi e1 e2];grind
 rw [e,zT,zL3 (a:=a) ha (fun i _ hn=>if_neg hn),zL3 (a:=b) hb (fun i _ hn=>if_neg hn),if_pos rfl,if_pos rfl]
theorem qH5:∀ (n m:Nat) (f:Nat->Nat->Rat),zB9 n (fun i=>zB9 m (f i))=zB9 m (fun j=>zB9 n (fun i=>f i j))
  | 0,m,f=>(zN9 fun _ _=>rfl).symm
  | n + 1, m, f => by
    show zB9 n _+zB9 m (f n)=_
    rw [qH5 n m f,<- zT]
    rfl
def zT0 (n C:Nat) (M:Nat->Nat->Rat) (x:Nat->Rat):Prop:=∀ i,i<n->zB9 C (fun j=>M i j*x j)=0
def zF3 (n C:Nat) (M M':Nat->Nat->Rat):Prop:=∀ x,zT0 n C M x ↔ zT0 n C M' x
theorem zF3.refl (n C:Nat) (M:Nat->Nat->Rat):zF3 n C M M:=fun _=>Iff.rfl
theorem zF3.trans {n C:Nat} {M M' M'':Nat->Nat->Rat} (h:zF3 n C M M') (h':zF3 n C M' M''):zF3 n C M M'':=fun x=>(h x).trans (h' x)
theorem zF3.symm {n C:Nat} {M M':Nat->Nat->Rat} (h:zF3 n C M M'):zF3 n C M' M:=fun x=>(h x).symm
theorem qC8 {n C:Nat} {M M':Nat->Nat->Rat} (h:∀ i j,i<n->j<C->M i j=M' i j):zF3 n C M M':=fun x=>by
 have e:∀ i,i<n->zB9 C (fun j=>M i j*x j)=zB9 C (fun j=>M' i j*x j):=fun i hi=>zE4 fun j hj=>by rw [h i j hi hj]
 exact ⟨fun k i hi=>(e i hi) ▸ k i hi,fun k i hi=>(e i hi).symm ▸ k i hi⟩
def zD4 (M:Nat->Nat->Rat) (a b:Nat):Nat->Nat->Rat:=fun i=>if i=a then M b else if i=b then M a else M i
def zE7 (M:Nat->Nat->Rat) (a:Nat) (c:Rat):Nat->Nat->Rat:=fun i j=>if i=a then M i j*c else M i j
def zI1 (M:Nat->Nat->Rat) (p:Nat) (t:Nat->Rat):Nat->Nat->Rat:=fun i j=>M i j-t i*M p j
theorem qV1 {n C:Nat} (M:Nat->Nat->Rat) {a b:Nat} (ha:a<n) (hb:b<n):zF3 n C M (zD4 M a b):=fun x=>by
 constructor
 ·intro h i hi;unfold zD4;by_cases e1:i=a
  ·simp only [if_pos e1];exact h b hb
  ·by_cases e2:i=b
   ·simp only [if_neg e1,if_pos e2];exact h a ha
   ·simp only [if_neg e1,if_neg e2];exact h i hi
 ·intro h i hi;by_cases e1:i=a
  ·have:=h b hb
   unfold zD4 at this;by_cases e:b=a
   ·rw [if_pos e] at this;rw [e1,<- e];exact this
   ·rw [if_neg e,if_pos rfl] at this;rw [e1];exact this
  ·by_cases e2:i=b
   ·have:=h a ha
    unfold zD4 at this;rw [if_pos rfl] at this;rw [e2];exact this
   ·have:=h i hi
    unfold zD4 at this;rw [if_neg e1,if_neg e2] at this;exact this
theorem qV2 {n C:Nat} (M:Nat->Nat->Rat) {a:Nat} {c:Rat} (hc:c≠0):zF3 n C M (zE7 M a c):=fun x=>by
 have e:∀ i,zB9 C (fun j=>zE7 M a c i j*x j)=(if i=a then c else 1)*zB9 C (fun j=>M i j*x j):=fun i=>by
  rw [<- zH5];refine zE4 fun j _ => ?_;unfold zE7;by_cases e1:i=a
  ·rw [if_pos e1,if_pos e1];grind
  ·rw [if_neg e1,if_neg e1];grind
 constructor
 ·intro h i hi;rw [e i,h i hi];grind
 ·intro h i hi
  have:=h i hi
  rw [e i] at this;by_cases e1:i=a
  ·rw [if_pos e1] at this;rcases Rat.mul_eq_zero.1 this with h0 | h0
   ·exact absurd h0 hc
   ·exact h0
  ·rw [if_neg e1] at this;grind
theorem qV3 {C:Nat} (M:Nat->Nat->Rat) (p i:Nat) (t:Nat->Rat) (x:Nat->Rat):zB9 C (fun j=>zI1 M p t i j*x j)=zB9 C (fun j=>M i j*x j)-t i*zB9 C (fun j=>M p j*x j):=by
 have e:zB9 C (fun j=>M i j*x j)-t i*zB9 C (fun j=>M p j*x j)=zB9 C (fun j=>M i j*x j)+(-(t i))*zB9 C (fun j=>M p j*x j):=by grind
 rw [e,<- zH5,<- zT];refine zE4 fun j _ => ?_;unfold zI1
 grind
theorem qN {n C:Nat} (M:Nat->Nat->Rat) {p:Nat} {t:Nat->Rat} (hp:p<n) (ht:t p=0):zF3 n C M (zI1 M p t):=fun x=>by
 constructor
 ·intro h i hi;rw [qV3,h i hi,h p hp];grind
 ·intro h i hi;have h0:=h p hp;rw [qV3,ht] at h0;have h1:=h i hi;rw [qV3] at h1;have h2:zB9 C (fun j=>M p j*x j)=0:=by grind
  rw [h2] at h1;grind
structure Ech (n at_:Nat) (M:Nat->Nat->Rat) (k:Nat) (p:Nat->Nat):Prop where
 le:k<=n
 rise:∀ i j,i<j->j<k->p i<p j
 lt:∀ i,i<k->p i<at_
 one:∀ i,i<k->M i (p i)=1
 lead:∀ i,i<k -> ∀ j,j<p i->M i j=0
 rest:∀ i,k<=i->i<n -> ∀ j,j<at_->M i j=0
def Red (n:Nat) (M:Nat->Nat->Rat) (k:Nat) (p:Nat->Nat) (u:Nat):Prop:=∀ m,u<=m->m<k -> ∀ i,i<n->i≠m->M i (p m)=0
theorem Ech.zero (n:Nat) (M:Nat->Nat->Rat) (p:Nat->Nat):Ech n 0 M 0 p:=⟨by omega,fun _ _ _ h=>by omega,fun _ h=>by omega,fun _ h=>by omega,fun _ h=>by omega,fun _ _ _ _ h=>by omega⟩
theorem Ech.skip {n a k:Nat} {M:Nat->Nat->Rat} {p:Nat->Nat} (h:Ech n a M k p) (h0:∀ i,k<=i->i<n->M i a=0):Ech n (a+1) M k p :=
 ⟨h.le, h.rise, fun i hi => by have := h.lt i hi; omega, h.one, h.lead, fun i h1 h2 j hj => by
  by_cases e:j=a
  ·subst e;exact h0 i h1 h2
  ·exact h.rest i h1 h2 j (by omega)⟩
theorem Ech.congr {n a k C:Nat} {M M':Nat->Nat->Rat} {p p':Nat->Nat} (h:Ech n a M k p) (ha:a<=C) (hM:∀ i j,i<n->j<C->M i j=M' i j) (hp:∀ i,i<k->p i=p' i):Ech n a M' k p':=by
 have hle:=h.le;refine ⟨h.le,fun i j hi hj=>by rw [<- hp i (by omega),<- hp j hj];exact h.rise i j hi hj,fun i hi=>by rw [<- hp i hi];exact h.lt i hi,fun i hi => ?_,fun i hi j hj => ?_,fun i h1 h2 j hj => ?_⟩
 ·rw [<- hp i hi,<- hM i _ (by omega) (by have:=h.lt i hi;omega)];exact h.one i hi
 ·rw [<- hp i hi] at hj;rw [<- hM i j (by omega) (by have:=h.lt i hi;omega)];exact h.lead i hi j hj
 ·rw [<- hM i j h2 (by omega)];exact h.rest i h1 h2 j hj
theorem Red.congr {n k u C:Nat} {M M':Nat->Nat->Rat} {p p':Nat->Nat} (h:Red n M k p u) (hlt:∀ i,i<k->p i<C) (hM:∀ i j,i<n->j<C->M i j=M' i j) (hp:∀ i,i<k->p i=p' i):Red n M' k p' u:=fun m h1 h2 i h3 h4=>by
 rw [<- hp m h2,<- hM i _ h3 (hlt m h2)];exact h m h1 h2 i h3 h4
theorem Ech.swap {n a k f:Nat} {M:Nat->Nat->Rat} {p:Nat->Nat} (h:Ech n a M k p) (hf:k<=f) (hn:f<n):Ech n a (zD4 M k f) k p:=by
 refine ⟨h.le,h.rise,h.lt,fun i hi => ?_,fun i hi j hj => ?_,fun i h1 h2 j hj => ?_⟩
 ·unfold zD4;rw [if_neg (by omega),if_neg (by omega)];exact h.one i hi
 ·unfold zD4;rw [if_neg (by omega),if_neg (by omega)];exact h.lead i hi j hj
 ·unfold zD4;by_cases e:i=k
  ·rw [if_pos e];exact h.rest f hf hn j hj
  ·rw [if_neg e];by_cases e2:i=f
   ·rw [if_pos e2];exact h.rest k (by omega) (by omega) j hj
   ·rw [if_neg e2];exact h.rest i h1 h2 j hj
theorem Ech.scale {n a k:Nat} {M:Nat->Nat->Rat} {p:Nat->Nat} (h:Ech n a M k p) (c:Rat):Ech n a (zE7 M k c) k p:=by
 refine ⟨h.le,h.rise,h.lt,fun i hi => ?_,fun i hi j hj => ?_,fun i h1 h2 j hj => ?_⟩
 ·unfold zE7;rw [if_neg (by omega)];exact h.one i hi
 ·unfold zE7;rw [if_neg (by omega)];exact h.lead i hi j hj
 ·unfold zE7;by_cases e:i=k
  ·rw [if_pos e,h.rest i h1 h2 j hj];grind
  ·rw [if_neg e];exact h.rest i h1 h2 j hj
theorem Ech.clear {n a k:Nat} {M:Nat->Nat->Rat} {p:Nat->Nat} {t:Nat->Rat} (h:Ech n a M k p) (hk:k<n) (h1:M k a=1) (ht:t k=0) (hb:∀ i,k<i->i<n->t i=M i a):Ech n (a+1) (zI1 M k t) (k+1) (fun i=>if i<k then p i else a):=by
 have z:∀ j,j<a->M k j=0:=fun j hj=>h.rest k (by omega) hk j hj;refine ⟨by omega,fun i j hi hj => ?_,fun i hi => ?_,fun i hi => ?_,fun i hi j hj => ?_,fun i h2 h3 j hj => ?_⟩
 ·by_cases e:j<k
  ·rw [if_pos e,if_pos (by omega)];exact h.rise i j hi e
  ·rw [if_neg e,if_pos (by omega)];exact h.lt i (by omega)
 ·by_cases e:i<k
  ·simp only [if_pos e];have:=h.lt i e;omega
  ·simp only [if_neg e];omega
 ·unfold zI1;by_cases e:i<k
  ·simp only [if_pos e];rw [h.one i e,z _ (h.lt i e)];grind
  ·simp only [if_neg e];obtain rfl:i=k:=by omega
   rw [ht,h1];grind
 ·unfold zI1;by_cases e:i<k
  ·simp only [if_pos e] at hj;rw [h.lead i e j hj,z j (by have:=h.lt i e;omega)];grind
  ·simp only [if_neg e] at hj;obtain rfl:i=k:=by omega
   rw [z j hj];grind
 ·unfold zI1;by_cases e:j=a
  ·subst e;rw [hb i (by omega) h3,h1];grind
  ·rw [h.rest i (by omega) h3 j (by omega),z j (by omega)];grind
theorem Red.swap {n k f:Nat} {M:Nat->Nat->Rat} {p:Nat->Nat} (h:Red n M k p 0) (hf:k<=f) (hn:f<n):Red n (zD4 M k f) k p 0:=fun m h1 h2 i h3 h4=>by
 unfold zD4;by_cases e:i=k
 ·rw [if_pos e];exact h m h1 h2 f hn (by omega)
 ·rw [if_neg e];by_cases e2:i=f
  ·rw [if_pos e2];exact h m h1 h2 k (by omega) (by omega)
  ·rw [if_neg e2];exact h m h1 h2 i h3 h4
theorem Red.scale {n k:Nat} {M:Nat->Nat->Rat} {p:Nat->Nat} (h:Red n M k p 0) (c:Rat):Red n (zE7 M k c) k p 0:=fun m h1 h2 i h3 h4=>by
 unfold zE7;by_cases e:i=k
 ·rw [if_pos e,h m h1 h2 i h3 h4];grind
 ·rw [if_neg e];exact h m h1 h2 i h3 h4
theorem Red.clear {n a k:Nat} {M:Nat->Nat->Rat} {p:Nat->Nat} {t:Nat->Rat} (h:Red n M k p 0) (he:Ech n a M k p) (hk:k<n) (h1:M k a=1) (ht:t k=0) (hb:∀ i,i≠k->i<n->t i=M i a):Red n (zI1 M k t) (k+1) (fun i=>if i<k then p i else a) 0:=fun m h2 h3 i h4 h5=>by
 unfold zI1;by_cases e:m<k
 ·simp only [if_pos e];rw [h m h2 e i h4 h5,h m h2 e k hk (by omega)];grind
 ·simp only [if_neg e];obtain rfl:m=k:=by omega
  rw [hb i h5 h4,h1];grind
theorem Ech.up {n a k m:Nat} {M:Nat->Nat->Rat} {p:Nat->Nat} {t:Nat->Rat} (h:Ech n a M k p) (hm:m<k) (ht:∀ i,m<=i->t i=0):Ech n a (zI1 M m t) k p:=by
 have z:∀ i j,i<m->j<=p i->M m j=0:=fun i j hi hj=>h.lead m hm j (by have:=h.rise i m hi hm;omega);refine ⟨h.le,h.rise,h.lt,fun i hi => ?_,fun i hi j hj => ?_,fun i h1 h2 j hj => ?_⟩
 ·unfold zI1;by_cases e:i<m
  ·rw [h.one i hi,z i _ e (zB3 _)];grind
  ·rw [h.one i hi,ht i (by omega)];grind
 ·unfold zI1;by_cases e:i<m
  ·rw [h.lead i hi j hj,z i j e (by omega)];grind
  ·rw [h.lead i hi j hj,ht i (by omega)];grind
 ·unfold zI1;rw [h.rest i h1 h2 j hj,ht i (by omega)];grind
theorem Red.up {n a k m:Nat} {M:Nat->Nat->Rat} {p:Nat->Nat} {t:Nat->Rat} (h:Red n M k p (m+1)) (he:Ech n a M k p) (hm:m<k) (ht:∀ i,m<=i->t i=0) (hb:∀ i,i<m->t i=M i (p m)):Red n (zI1 M m t) k p m:=fun q h1 h2 i h3 h4=>by
 have hle:=he.le;unfold zI1;by_cases e:q=m
 ·subst e;by_cases e2:i<q
  ·rw [hb i e2,he.one q hm];grind
  ·rw [ht i (by omega)];by_cases e3:i<k
   ·rw [he.lead i e3 _ (he.rise q i (by omega) e3)];grind
   ·rw [he.rest i (by omega) h3 _ (he.lt q hm)];grind
 ·rw [h q (by omega) h2 i h3 h4,h q (by omega) h2 m (by omega) (by omega)];grind
def nv (M:Nat->Nat->Rat) (k:Nat) (p:Nat->Nat) (j:Nat):Nat->Rat:=fun c=>if c=j then 1 else -(zB9 k (fun i=>if p i=c then M i j else 0))
theorem Ech.inj {n a k:Nat} {M:Nat->Nat->Rat} {p:Nat->Nat} (h:Ech n a M k p) {i j:Nat} (hi:i<k) (hj:j<k) (e:p i=p j):i=j:=by
 rcases Nat.lt_trichotomy i j with hl|hl|hl
 ·have:=h.rise i j hl hj;omega
 ·exact hl
 ·have:=h.rise j i hl hi;omega
theorem zT1 {M:Nat->Nat->Rat} {k:Nat} {p:Nat->Nat} {j:Nat} : nv M k p j j=1:=if_pos rfl
theorem qH6 {n a k:Nat} {M:Nat->Nat->Rat} {p:Nat->Nat} (h:Ech n a M k p) {i j:Nat} (hi:i<k) (hne:p i≠j):nv M k p j (p i) = - M i j:=by
 unfold nv;rw [if_neg hne,zL3 (a:=i) hi (fun m hm hn=>if_neg fun e=>hn (h.inj hm hi e)),if_pos rfl]
theorem zZ8 {M:Nat->Nat->Rat} {k:Nat} {p:Nat->Nat} {j c:Nat} (hc:c≠j) (hf:∀ i,i<k->p i≠c):nv M k p j c=0:=by
 unfold nv;rw [if_neg hc,zN9 (fun i hi=>if_neg (hf i hi))];grind
theorem zW7 {n C k:Nat} {M:Nat->Nat->Rat} {p:Nat->Nat} (h:Ech n C M k p) (hr:Red n M k p 0) {j:Nat} (hj:j<C) (hf:∀ i,i<k->p i≠j):zT0 n C M (nv M k p j):=fun i hi=>by
  by_cases e:i<k
  · rw [yI1 (a := p i) (b := j) (h.lt i e) hj (hf i e) (fun c hc h1 h2 => ?_), qH6 h e (hf i e), zT1, h.one i e]
    · grind
    · by_cases hp:∃ m,m<k/\p m=c
      · obtain ⟨m,hm,rfl⟩:=hp;rw [hr m (by omega) hm i hi (fun e2=>h1 (by rw [e2]))];grind
      · rw [zZ8 h2 (fun m hm e2=>hp ⟨m,hm,e2⟩)];grind
  · exact zN9 fun c hc=>by rw [h.rest i (by omega) hi c hc];grind
theorem yI2 {n a k:Nat} {M:Nat->Nat->Rat} {p:Nat->Nat} (h:Ech n a M k p) {j c:Nat} (hc:j<c):nv M k p j c=0:=by
 by_cases hp:∃ m,m<k/\p m=c
 ·obtain ⟨m,hm,rfl⟩:=hp;rw [qH6 h hm (by omega),h.lead m hm j hc];grind
 ·exact zZ8 (by omega) (fun m hm e2=>hp ⟨m,hm,e2⟩)
theorem yI3 {n C k k':Nat} {M M':Nat->Nat->Rat} {p p':Nat->Nat} (h:Ech n C M k p) (hr:Red n M k p 0) (h':Ech n C M' k' p') (hk:zF3 n C M M') {i:Nat} (hi:i<k'):∃ m,m<k/\p m=p' i:=by
 refine Classical.byContradiction fun hn => ?_;have hf:∀ m,m<k->p m≠p' i:=fun m hm e=>hn ⟨m,hm,e⟩;have hle:=h'.le;have h1:=(hk _).1 (zW7 h hr (h'.lt i hi) hf) i (by omega);rw [zL3 (a:=p' i) (h'.lt i hi) (fun c hc hne => ?_),h'.one i hi,zT1] at h1
 ·grind
 ·rcases Nat.lt_trichotomy c (p' i) with hl|hl|hl
  ·rw [h'.lead i hi c hl];grind
  ·exact absurd hl hne
  ·rw [yI2 h hl];grind
theorem rise_eq {k k':Nat} {p p':Nat->Nat} (hr:∀ i j,i<j->j<k->p i<p j) (hr':∀ i j,i<j->j<k'->p' i<p' j) (h:∀ i,i<k' -> ∃ m,m<k/\p m=p' i) (h':∀ i,i<k -> ∃ m,m<k'/\p' m=p i):k=k' /\ ∀ i,i<k->p i=p' i:=by
  have key:∀ i,(i<k->i<k'/\p i=p' i)/\(i<k'->i<k/\p i=p' i):=by
    intro i
    induction i using Nat.strongRecOn with
    | _ i ih =>
      have A:i<k->i<k'/\p' i<=p i:=fun hi=>by
        obtain ⟨m,hm,e⟩:=h' i hi;by_cases hmi:m<i
        · have:=((ih m hmi).1 (by omega)).2
          have:=hr m i hmi hi
          omega
        · by_cases e2:i=m
          · subst e2;exact ⟨hm,by omega⟩
          · have:=hr' i m (by omega) hm
            exact ⟨by omega,by omega⟩
      have B:i<k'->i<k/\p i<=p' i:=fun hi=>by
        obtain ⟨m,hm,e⟩:=h i hi;by_cases hmi:m<i
        · have:=((ih m hmi).2 (by omega)).2
          have:=hr' m i hmi hi
          omega
        · by_cases e2:i=m
          · subst e2;exact ⟨hm,by omega⟩
          · have:=hr i m (by omega) hm
            exact ⟨by omega,by omega⟩
      exact ⟨fun hi=>by
        obtain ⟨a,b⟩:=A hi;obtain ⟨c,d⟩:=B a
        exact ⟨a,by omega⟩,fun hi=>by
        obtain ⟨a,b⟩:=B hi;obtain ⟨c,d⟩:=A a;exact ⟨a,by omega⟩⟩
  refine ⟨?_,fun i hi=>((key i).1 hi).2⟩;rcases Nat.lt_trichotomy k k' with hl|hl|hl
  · have:=((key k).2 hl).1;omega
  · exact hl
  · have:=((key k').1 hl).1;omega
theorem jG1 {n C k k':Nat} {M M':Nat->Nat->Rat} {p p':Nat->Nat} (h:Ech n C M k p) (hr:Red n M k p 0) (h':Ech n C M' k' p') (hr':Red n M' k' p' 0) (hk:zF3 n C M M'):k=k'/\(∀ i,i<k->p i=p' i) /\ ∀ i j,i<n->j<C->M i j=M' i j:=by
 obtain ⟨e1,e2⟩:=rise_eq h.rise h'.rise (fun i hi=>yI3 h hr h' hk hi) (fun i hi=>yI3 h' hr' h hk.symm hi);refine ⟨e1,e2,fun i j hi hj => ?_⟩;subst e1;by_cases hik:i<k
 ·by_cases hp:∃ m,m<k/\p m=j
  ·obtain ⟨m,hm,rfl⟩:=hp;by_cases e:i=m
   ·subst e;rw [h.one i hik,e2 i hik,h'.one i hik]
   ·rw [hr m (by omega) hm i hi e,e2 m hm,hr' m (by omega) hm i hi e]
  ·have hf:∀ m,m<k->p m≠j:=fun m hm e=>hp ⟨m,hm,e⟩;have h1:=(hk _).1 (zW7 h hr hj hf) i hi;rw [yI1 (a:=p i) (b:=j) (h.lt i hik) hj (hf i hik) (fun c hc h1 h2 => ?_),qH6 h hik (hf i hik),zT1,e2 i hik,h'.one i hik] at h1
   ·grind
   ·by_cases hp:∃ m,m<k/\p m=c
    ·obtain ⟨m,hm,rfl⟩:=hp;rw [e2 m hm,hr' m (by omega) hm i hi (fun e2=>h1 (by rw [e2]))];grind
    ·rw [zZ8 h2 (fun m hm e2=>hp ⟨m,hm,e2⟩)];grind
 ·rw [h.rest i (by omega) hi j hj,h'.rest i (by omega) hi j hj]
def zL9 (M:Nat->Nat->Rat) (a b:Nat) (t:Rat):Nat->Nat->Rat:=fun i j=>if i=a then M i j-t*M b j else M i j
structure RowFn (n C:Nat) (f:(Nat->Nat->Rat)->Rat):Prop where
 congr:∀ M M',(∀ i j,i<n->j<C->M i j=M' i j)->f M=f M'
 scale:∀ M a c,a<n->f (zE7 M a c)=c*f M
 add:∀ M a b t,a<n->b<n->a≠b->f (zL9 M a b t)=f M
theorem RowFn.zero {n C:Nat} {f:(Nat->Nat->Rat)->Rat} (h:RowFn n C f) {M:Nat->Nat->Rat} {a:Nat} (ha:a<n) (h0:∀ j,j<C->M a j=0):f M=0:=by
 have h1:=h.scale M a 0 ha
 rw [h.congr (zE7 M a 0) M (fun i j hi hj=>by
  unfold zE7;by_cases e:i=a
  ·rw [if_pos e,e,h0 j hj];grind
  ·rw [if_neg e])] at h1
 rw [h1];grind
theorem RowFn.clear {n C:Nat} {f:(Nat->Nat->Rat)->Rat} (h:RowFn n C f) (M:Nat->Nat->Rat) {p:Nat} {t:Nat->Rat} (hp:p<n) (ht:t p=0):f (zI1 M p t)=f M:=by
  have key:∀ m,m<=n->f (fun i j=>if i<m then zI1 M p t i j else M i j)=f M:=by
    intro m
    induction m with
    | zero=>intro _;exact h.congr _ _ fun i j _ _=>if_neg (by omega)
    | succ m ih =>
      intro hm;rw [<- ih (by omega)];by_cases e:m=p
      · refine h.congr _ _ fun i j hi hj => ?_
        by_cases e1:i<m
        · simp only [if_pos e1,if_pos (show i<m+1 by omega)]
        · by_cases e2:i=m
          · subst e2;simp only [if_neg e1,if_pos (show i<i+1 by omega)];unfold zI1;rw [e,ht];grind
          · simp only [if_neg e1,if_neg (show ¬ i<m+1 by omega)]
      · rw [<- h.add (fun i j => if i < m then zI1 M p t i j else M i j) m p (t m) (by omega) hp e];refine h.congr _ _ fun i j hi hj => ?_;unfold zL9;by_cases e2:i=m
        · subst e2;simp only [if_pos (show i<i+1 by omega),if_neg (show ¬ i<i by omega)];by_cases e3:p<i
          · simp only [if_pos e3];unfold zI1;rw [ht];grind
          · simp only [if_neg e3]
            rfl
        · simp only [if_neg e2];by_cases e1:i<m
          · simp only [if_pos e1,if_pos (show i<m+1 by omega)]
          · simp only [if_neg e1,if_neg (show ¬ i<m+1 by omega)]
  rw [<- key n (zB3 _)];exact h.congr _ _ fun i j hi _=>(if_pos hi).symm
theorem RowFn.swap {n C:Nat} {f:(Nat->Nat->Rat)->Rat} (h:RowFn n C f) (M:Nat->Nat->Rat) {a b:Nat} (ha:a<n) (hb:b<n) (hab:a≠b):f (zD4 M a b) = - f M:=by
 have e1:=h.add M a b (-1) ha hb hab;have e2:=h.add (zL9 M a b (-1)) b a 1 hb ha (fun e=>hab e.symm);have e3:=h.add (zL9 (zL9 M a b (-1)) b a 1) a b (-1) ha hb hab;have e4:=h.scale (zL9 (zL9 (zL9 M a b (-1)) b a 1) a b (-1)) b (-1) hb
 have e5:f (zD4 M a b)=f (zE7 (zL9 (zL9 (zL9 M a b (-1)) b a 1) a b (-1)) b (-1)):=h.congr _ _ fun i j hi hj=>by
  have hba:b≠a:=fun e=>hab e.symm;unfold zD4 zE7 zL9;by_cases k1:i=a
  ·subst k1;simp only [if_neg hab,if_neg hba]
   grind
  ·by_cases k2:i=b
   ·subst k2;simp only [if_neg hba]
    grind
   ·simp only [if_neg k1,if_neg k2]
 rw [e5,e4,e3,e2,e1];grind
def zH0 (j c:Nat):Nat:=if c<j then c else c+1
def qC9 (a b:Nat):Nat:=if b<a then b else b-1
def sgN (j:Nat):Rat:=if j % 2=0 then 1 else -1
def zM (M:Nat->Nat->Rat) (j:Nat):Nat->Nat->Rat:=fun i c=>M (i+1) (zH0 j c)
def zC8:Nat->(Nat->Nat->Rat)->Rat
 | 0,_=>1
 | n+1,M=>zB9 (n+1) (fun j=>sgN j*M 0 j*zC8 n (zM M j))
theorem zZ9 {j c n:Nat} (hc:c<n):zH0 j c<n+1:=by unfold zH0;split<;>omega
theorem jG2 (j c:Nat):zH0 j c≠j:=by unfold zH0;split<;>omega
theorem jG3 (a l:Nat):qC9 a (zH0 a l)=l:=by
 unfold qC9 zH0;by_cases h:l<a
 ·rw [if_pos h,if_pos h]
 ·rw [if_neg h,if_neg (by omega)];omega
theorem jG4 {a b:Nat} (h:a<b) (c:Nat):zH0 a (zH0 (b-1) c)=zH0 b (zH0 a c):=by
 unfold zH0;by_cases h1:c<a
 ·simp only [if_pos h1,if_pos (show c<b-1 by omega),if_pos (show c<b by omega)]
 ·by_cases h2:c<b-1
  ·simp only [if_neg h1,if_pos h2,if_pos (show c+1<b by omega)]
  ·simp only [if_neg h1,if_neg h2,if_neg (show ¬ c+1<a by omega),if_neg (show ¬ c+1<b by omega)]
theorem jG5 {b:Nat} (h:0<b):sgN (b-1) = - sgN b:=by
 unfold sgN;by_cases h1:b % 2=0
 ·rw [if_pos h1,if_neg (by omega)]
 ·rw [if_neg h1,if_pos (by omega)];grind
theorem zL0:∀ (n:Nat) {M M':Nat->Nat->Rat},(∀ i j,i<n->j<n->M i j=M' i j)->zC8 n M=zC8 n M'
  | 0,_,_,_=>rfl
  | n + 1, M, M', h => zE4 fun j hj => by
    rw [h 0 j (by omega) hj,zL0 n (M:=zM M j) (M':=zM M' j) (fun i c hi hc=>h (i+1) _ (by omega) (zZ9 hc))]
theorem qV4:∀ (n:Nat) {M M1 M2:Nat->Nat->Rat} (a:Nat) (x y:Rat),a<n->(∀ j,j<n->M a j=x*M1 a j+y*M2 a j)->(∀ i j,i<n->j<n->i≠a->M i j=M1 i j/\M i j=M2 i j)->zC8 n M=x*zC8 n M1+y*zC8 n M2
  | 0,_,_,_,_,_,_,h,_,_=>by omega
  | n + 1, M, M1, M2, 0, x, y, _, h1, h2 => by
    show zB9 _ _=x*zB9 _ _+y*zB9 _ _
    rw [<- zH5,<- zH5,<- zT];refine zE4 fun j hj => ?_
    rw [h1 j hj,zL0 n (M:=zM M j) (M':=zM M1 j) (fun i c hi hc=>(h2 (i+1) _ (by omega) (zZ9 hc) (by omega)).1),zL0 n (M:=zM M2 j) (M':=zM M1 j) (fun i c hi hc=>by
      have:=h2 (i+1) (zH0 j c) (by omega) (zZ9 hc) (by omega)
      exact this.2.symm.trans this.1)]
    grind
  | n + 1, M, M1, M2, a + 1, x, y, ha, h1, h2 => by
    show zB9 _ _=x*zB9 _ _+y*zB9 _ _
    rw [<- zH5,<- zH5,<- zT];refine zE4 fun j hj => ?_;rw [qV4 n (M:=zM M j) (M1:=zM M1 j) (M2:=zM M2 j) a x y (by omega) (fun c hc=>h1 _ (zZ9 hc)) (fun i c hi hc hne=>h2 (i+1) _ (by omega) (zZ9 hc) (by omega)),<- (h2 0 j (by omega) hj (by omega)).1,<- (h2 0 j (by omega) hj (by omega)).2]
    grind
theorem yI4:∀ (n j:Nat) (F:Nat->Rat),j<n+1->zB9 n (fun l=>F (zH0 j l))+F j=zB9 (n+1) F
  | 0, j, F, h => by
    obtain rfl:j=0:=by omega
    rfl
  | n + 1, j, F, h => by
    show (zB9 n _+F (zH0 j n))+F j=zB9 (n+1) F+F (n+1)
    by_cases e:j=n+1
    · subst e;have h1:zB9 n (fun l=>F (zH0 (n+1) l))=zB9 n F:=zE4 fun l hl=>by unfold zH0;rw [if_pos (by omega)]
      rw [h1];unfold zH0;rw [if_pos (by omega)]
      rfl
    · have h1:=yI4 n j F (by omega);rw [<- h1];have h2:zH0 j n=n+1:=by unfold zH0;rw [if_neg (by omega)]
      rw [h2];grind
def zP7 (n:Nat) (M:Nat->Nat->Rat) (a b:Nat):Rat:=if b=a then 0 else sgN a*sgN (qC9 a b)*zC8 n (fun i c=>M (i+2) (zH0 a (zH0 (qC9 a b) c)))
theorem jG6 (n:Nat) (M:Nat->Nat->Rat) (a b:Nat):zP7 n M b a = - zP7 n M a b:=by
 have main:∀ a b,a<b->zP7 n M b a = - zP7 n M a b:=by
  intro a b h;unfold zP7;rw [if_neg (by omega),if_neg (by omega)];have e1:qC9 b a=a:=if_pos h;have e2:qC9 a b=b-1:=if_neg (by omega);rw [e1,e2,jG5 (by omega),zL0 n (M:=fun i c=>M (i+2) (zH0 a (zH0 (b-1) c))) (M':=fun i c=>M (i+2) (zH0 b (zH0 a c))) (fun i c _ _=>by rw [jG4 h])]
  grind
 rcases Nat.lt_trichotomy a b with h | h | h
 ·exact main a b h
 ·subst h;unfold zP7;rw [if_pos rfl];grind
 ·have:=main b a h
  rw [this];grind
theorem yI5 (n:Nat) (M:Nat->Nat->Rat):zC8 (n+2) M=zB9 (n+2) (fun j=>zB9 (n+2) (fun b=>M 0 j*M 1 b*zP7 n M j b)):=by
 show zB9 (n+2) _=_
 refine zE4 fun j hj => ?_
 show sgN j*M 0 j*zB9 (n+1) _=_
 rw [<- yI4 (n+1) j _ hj,<- zH5];have h0:zP7 n M j j=0:=if_pos rfl;simp only [h0];rw [show M 0 j*M 1 j*0=0 by grind,Rat.add_zero];refine zE4 fun l hl => ?_;unfold zP7;rw [if_neg (jG2 j l),jG3];show sgN j*M 0 j*(sgN l*M 1 (zH0 j l)*zC8 n (fun i c=>M (i+2) (zH0 j (zH0 l c))))=_
 grind
theorem jG7 (n:Nat) (M:Nat->Nat->Rat):zC8 (n+2) (zD4 M 0 1) = - zC8 (n+2) M:=by
 rw [yI5,yI5,qH5];have e : - zB9 (n+2) (fun j=>zB9 (n+2) (fun b=>M 0 j*M 1 b*zP7 n M j b))=(-1)*zB9 (n+2) (fun j=>zB9 (n+2) (fun b=>M 0 j*M 1 b*zP7 n M j b)):=by grind
 rw [e,<- zH5];refine zE4 fun j hj => ?_;rw [<- zH5];refine zE4 fun b hb => ?_;have e0:zD4 M 0 1 0 b=M 1 b:=rfl;have e1:zD4 M 0 1 1 j=M 0 j:=rfl;have e2:zP7 n (zD4 M 0 1) b j=zP7 n M b j:=rfl;rw [e0,e1,e2,jG6 n M j b];grind
theorem qV5:∀ (i n:Nat) (M:Nat->Nat->Rat),i+1<n->zC8 n (zD4 M i (i+1)) = - zC8 n M
  | 0,0,_,h=>by omega
  | 0,1,_,h=>by omega
  | 0,n+2,M,_=>jG7 n M
  | i+1,0,_,h=>by omega
  | i + 1, n + 1, M, h => by
    show zB9 _ _ = - zB9 _ _
    have e : - zB9 (n+1) (fun j=>sgN j*M 0 j*zC8 n (zM M j))=(-1)*zB9 (n+1) (fun j=>sgN j*M 0 j*zC8 n (zM M j)):=by grind
    rw [e,<- zH5];refine zE4 fun j hj => ?_;have e0:zD4 M (i+1) (i+1+1) 0 j=M 0 j:=by unfold zD4;rw [if_neg (by omega),if_neg (by omega)]
    have e1:zM (zD4 M (i+1) (i+1+1)) j=zD4 (zM M j) i (i+1):=by
      funext r c
      unfold zM zD4;by_cases k1:r=i
      · rw [if_pos (by omega),if_pos k1]
      · by_cases k2:r=i+1
        · rw [if_neg (by omega),if_pos (by omega),if_neg k1,if_pos k2]
        · rw [if_neg (by omega),if_neg (by omega),if_neg k1,if_neg k2]
    rw [e0,e1,qV5 i n (zM M j) (by omega)];grind
theorem qV6:∀ (d a n:Nat) (M:Nat->Nat->Rat),a+d+1<n->(∀ j,j<n->M a j=M (a+d+1) j)->zC8 n M=0
  | 0, a, n, M, h, he => by
    have h1:=qV5 a n M h
    rw [zL0 n (M := zD4 M a (a + 1)) (M' := M) (fun i j hi hj => by
      unfold zD4;by_cases k1:i=a
      · rw [if_pos k1,k1];exact (he j hj).symm
      · by_cases k2:i=a+1
        · rw [if_neg k1,if_pos k2,k2];exact he j hj
        · rw [if_neg k1,if_neg k2])] at h1
    grind
  | d + 1, a, n, M, h, he => by
    have h1:=qV5 (a+d+1) n M (by omega)
    have h2:=qV6 d a n (zD4 M (a+d+1) (a+d+1+1)) (by omega) (fun j hj=>by
      unfold zD4;rw [if_neg (by omega),if_neg (by omega),if_pos rfl];exact he j hj)
    rw [h2] at h1
    grind
theorem zT2 (n:Nat):RowFn n n (zC8 n):=by
 refine ⟨fun M M' h=>zL0 n h,fun M a c ha => ?_,fun M a b t ha hb hab => ?_⟩
 ·have h:=qV4 n (M:=zE7 M a c) (M1:=M) (M2:=M) a c 0 ha (fun j _=>by unfold zE7;rw [if_pos rfl];grind) (fun i j _ _ hne=>by unfold zE7;rw [if_neg hne];exact ⟨rfl,rfl⟩);rw [h];grind
 ·have h:=qV4 n (M:=zL9 M a b t) (M1:=M) (M2:=fun i j=>if i=a then M b j else M i j) a 1 (-t) ha (fun j _=>by unfold zL9;rw [if_pos rfl,if_pos rfl];grind) (fun i j _ _ hne=>by unfold zL9;rw [if_neg hne,if_neg hne];exact ⟨rfl,rfl⟩)
  have h0:zC8 n (fun i j=>if i=a then M b j else M i j)=0:=by
   rcases Nat.lt_or_gt_of_ne hab with hl|hl
   ·refine qV6 (b-a-1) a n _ (by omega) (fun j _ => ?_);rw [show a+(b-a-1)+1=b by omega,if_pos rfl,if_neg (fun e=>hab e.symm)]
   ·refine qV6 (a-b-1) b n _ (by omega) (fun j _ => ?_);rw [show b+(a-b-1)+1=a by omega,if_pos rfl,if_neg (fun e=>hab e.symm)]
  rw [h,h0];grind
def idF:Nat->Nat->Rat:=fun i j=>if i=j then 1 else 0
theorem qH7:∀ n,zC8 n idF=1
  | 0=>rfl
  | n + 1 => by
    show zB9 (n+1) _=1
    rw [zL3 (a:=0) (by omega) (fun j _ hne=>by
      have:idF 0 j=0:=if_neg (fun e=>hne e.symm);rw [this];grind)]
    have e:zM idF 0=idF:=by
      funext i c
      have e0:zH0 0 c=c+1:=if_neg (by omega);unfold zM;rw [e0];unfold idF;by_cases k:i=c
      · rw [if_pos k,if_pos (by omega)]
      · rw [if_neg k,if_neg (by omega)]
    rw [e,qH7 n];show sgN 0*1*1=1
    unfold sgN
    grind
def zO (n:Nat) (M B:Nat->Nat->Rat):Nat->Nat->Rat:=fun i j=>zB9 n (fun l=>M i l*B l j)
theorem jG8 (n:Nat) (B:Nat->Nat->Rat):RowFn n n (fun M=>zC8 n (zO n M B)):=by
 have hd:=zT2 n;refine ⟨fun M M' h=>hd.congr _ _ fun i j hi hj=>zE4 fun l hl=>by rw [h i l hi hl],fun M a c ha => ?_,fun M a b t ha hb hab => ?_⟩
 ·rw [<- hd.scale _ a c ha];refine hd.congr _ _ fun i j hi hj => ?_;unfold zO zE7;by_cases e:i=a
  ·simp only [if_pos e];rw [show zB9 n (fun l=>M i l*B l j)*c=c*zB9 n (fun l=>M i l*B l j) by grind,<- zH5];exact zE4 fun l _=>by grind
  ·simp only [if_neg e]
 ·rw [<- hd.add (zO n M B) a b t ha hb hab];refine hd.congr _ _ fun i j hi hj => ?_;unfold zO zL9;by_cases e:i=a
  ·simp only [if_pos e];rw [show zB9 n (fun l=>M i l*B l j)-t*zB9 n (fun l=>M b l*B l j)=zB9 n (fun l=>M i l*B l j)+(-t)*zB9 n (fun l=>M b l*B l j) by grind,<- zH5,<- zT];exact zE4 fun l _=>by grind
  ·simp only [if_neg e]
theorem mulF_id (n:Nat) (B:Nat->Nat->Rat) {i j:Nat} (hi:i<n):zO n idF B i j=B i j:=by
 unfold zO
 rw [zL3 (a:=i) hi (fun l _ hne=>by
  have:idF i l=0:=if_neg (fun e=>hne e.symm);rw [this];grind)]
 have:idF i i=1:=if_pos rfl;rw [this];grind
theorem Ech.full {n k:Nat} {M:Nat->Nat->Rat} {p:Nat->Nat} (h:Ech n n M k p) (hk:k=n) {i:Nat} (hi:i<n):p i=i:=by
  subst hk
  have a1:∀ i,i<k->i<=p i:=by
    intro i
    induction i with
    | zero=>intro _;omega
    | succ i ih =>
      intro hi
      have:=ih (by omega)
      have:=h.rise i (i+1) (by omega) hi
      omega
  have a2:∀ d i,i+d+1=k->p i<=i:=by
    intro d
    induction d with
    | zero=>intro i e;have:=h.lt i (by omega);omega
    | succ d ih =>
      intro i e
      have:=ih (i+1) (by omega)
      have:=h.rise i (i+1) (by omega) (by omega)
      omega
  have:=a1 i hi
  have:=a2 (k-i-1) i (by omega)
  omega
theorem RowFn.unit {n k:Nat} {f:(Nat->Nat->Rat)->Rat} (h:RowFn n n f) {p:Nat->Nat} (hk:k=n):∀ (m:Nat) (M:Nat->Nat->Rat),m<=k->Ech n n M k p->Red n M k p m->f M=f idF
  | 0, M, _, he, hr => h.congr _ _ fun i j hi hj => by
    have hp:=he.full hk hj;by_cases e:i=j
    · subst e
      have:=he.one i (by omega)
      rw [hp] at this;rw [this];exact (if_pos rfl).symm
    · have:=hr j (by omega) (by omega) i hi e
      rw [hp] at this;rw [this];exact (if_neg e).symm
  | m + 1, M, hm, he, hr => by
    obtain ⟨t,ht⟩:∃ t:Nat->Rat,t=fun i=>if i<m then M i (p m) else 0:=⟨_,rfl⟩
    have h1:∀ i,m<=i->t i=0:=fun i hi=>by rw [ht];exact if_neg (by omega)
    have h2:∀ i,i<m->t i=M i (p m):=fun i hi=>by rw [ht];exact if_pos hi
    rw [<- h.clear M (p:=m) (t:=t) (by omega) (h1 m (zB3 _))];exact RowFn.unit h hk m _ (by omega) (he.up (by omega) h1) (hr.up he (by omega) h1 h2)
theorem RowFn.steps {n k:Nat} {f:(Nat->Nat->Rat)->Rat} (h:RowFn n n f) {M:Nat->Nat->Rat} {p:Nat->Nat} (he:Ech n n M k p):f M=if k=n then f idF else 0:=by
 by_cases hk:k=n
 ·rw [if_pos hk];exact h.unit hk k M (zB3 _) he (fun m h1 h2=>by omega)
 ·rw [if_neg hk]
  have:=he.le
  exact h.zero (a:=k) (by omega) (fun j hj=>he.rest k (zB3 _) (by omega) j hj)
def zB8 (T:List (List Rat)):Nat->Nat->Rat:=fun i j=>(T.getD i []).getD j 0
theorem zK5 {T:List (List Rat)} {i:Nat} {r:List Rat} (h:T[i]?=some r):T.getD i []=r:=by
 rw [zA6,h];rfl
theorem zM6 {T:List (List Rat)} {i:Nat} {r:List Rat} (h:T[i]?=some r) (j:Nat):zB8 T i j=r.getD j 0:=by
 unfold zB8;rw [zK5 h]
theorem qN0 {T:List (List Rat)} {i j:Nat} {r:List Rat} {q:Rat} (h:T[i]?=some r) (hq:r[j]?=some q):zB8 T i j=q:=by
 rw [zM6 h,zA6,hq];rfl
theorem zW8 {T:List (List Rat)} {n C i j:Nat} (hs:shp T n C) (hi:i<n) (hj:j<C):∃ r,T[i]?=some r/\r.length=C/\r[j]?=some (zB8 T i j):=by
 obtain ⟨r,h1,h2⟩:=zI0 hs hi;have h3:r[j]?=some (r[j]'(by rw [h2];exact hj)):=zA3 _;exact ⟨r,h1,h2,by rw [qN0 h1 h3];exact h3⟩
theorem qN1 {T:List (List Rat)} {i:Nat} (r:List Rat) (hi:i<T.length) (j:Nat):zB8 (T.set i r) i j=r.getD j 0:=zM6 (bQ3 hi) j
theorem qN2 {T:List (List Rat)} {i k:Nat} (r:List Rat) (h:i≠k) (j:Nat):zB8 (T.set k r) i j=zB8 T i j:=by
 have e:(T.set k r).getD i []=T.getD i []:=by
  rw [zA6,bW1 (fun e=>h e.symm),<- zA6]
 unfold zB8;rw [e]
theorem qH8 {T:List (List Rat)} {n C i:Nat} {r:List Rat} (hs:shp T n C) (hr:r.length=C):shp (T.set i r) n C :=
 ⟨by rw [zB2]; exact hs.1, fun x hx => by
  rcases bW3 hx with hx | rfl
  ·exact hs.2 x hx
  ·exact hr⟩
theorem yI6 {T U:List (List Rat)} {n C:Nat} (h:shp T n C) (h':shp U n C) (he:∀ i j,i<n->j<C->zB8 T i j=zB8 U i j):T=U :=
 shp_ext h h' fun i j hi hj=>by
  obtain ⟨r,h1,_,h2⟩:=zW8 h hi hj;obtain ⟨s,h3,_,h4⟩:=zW8 h' hi hj;rw [yI0 h1 h2,yI0 h3 h4,he i j hi hj]
theorem jG9 {p q:List Rat} {k:Rat} {j:Nat} (h:p.length=q.length) (hj:j<p.length):(zJ5 p k q).getD j 0=p.getD j 0-k*q.getD j 0:=by
 unfold zJ5;rw [zA6,List.getElem?_zipWith,zA3 hj,zA3 (by omega:j<q.length),zA6,zA6,zA3 hj,zA3 (by omega:j<q.length)]
 rfl
theorem jH {p:List Rat} {k:Rat} {j:Nat} (hj:j<p.length):(zH3 p k).getD j 0=p.getD j 0*k:=by
 unfold zH3;rw [zA6,zB1,zA3 hj,zA6,zA3 hj]
 rfl
theorem jH0 {p q:List Rat} (h:p.length=q.length):zJ5 p 0 q=p:=by
 refine bX0 fun j => ?_;unfold zJ5;rw [List.getElem?_zipWith];by_cases hj:j<p.length
 ·rw [zA3 hj,zA3 (by omega:j<q.length)];show some _=_
  congr 1
  grind
 ·rw [bW4 (by omega)]
def zI3 (T:List (List Rat)) (a b:Nat):List (List Rat):=(T.set a (T.getD b [])).set b (T.getD a [])
theorem qN3 {T:List (List Rat)} {n C a b:Nat} (hs:shp T n C) (ha:a<n) (hb:b<n):shp (zI3 T a b) n C:=by
 obtain ⟨r,h1,h2⟩:=zI0 hs ha;obtain ⟨s,h3,h4⟩:=zI0 hs hb;unfold zI3;rw [zA6,h3,zA6,h1];exact qH8 (qH8 hs h4) h2
theorem qV7 {T:List (List Rat)} {n C a b:Nat} (hs:shp T n C) (ha:a<n) (hb:b<n) (i j:Nat):zB8 (zI3 T a b) i j=zD4 (zB8 T) a b i j:=by
 unfold zI3 zD4;by_cases e2:i=b
 ·subst e2;rw [qN1 _ (by rw [zB2,hs.1];exact hb)];by_cases e1:i=a
  ·subst e1;rw [if_pos rfl];rfl
  ·rw [if_neg e1,if_pos rfl];rfl
 ·rw [qN2 _ e2];by_cases e1:i=a
  ·subst e1;rw [qN1 _ (by rw [hs.1];exact ha),if_pos rfl];rfl
  ·rw [qN2 _ e1,if_neg e1,if_neg e2]
def zP8 (T:List (List Rat)) (a:Nat) (c:Rat):List (List Rat):=T.set a (zH3 (T.getD a []) c)
theorem yI7 {T:List (List Rat)} {n C a:Nat} (c:Rat) (hs:shp T n C) (ha:a<n):shp (zP8 T a c) n C:=by
 obtain ⟨r,h1,h2⟩:=zI0 hs ha;unfold zP8;rw [zA6,h1];exact qH8 hs (by rw [qM4];exact h2)
theorem jH1 {T:List (List Rat)} {n C a:Nat} (c:Rat) (hs:shp T n C) (ha:a<n) (i j:Nat) (hj:j<C):zB8 (zP8 T a c) i j=zE7 (zB8 T) a c i j:=by
 unfold zP8 zE7;by_cases e:i=a
 ·subst e;obtain ⟨r,h1,h2⟩:=zI0 hs ha;rw [qN1 _ (by rw [hs.1];exact ha),if_pos rfl,zM6 h1,zK5 h1];exact jH (by omega)
 ·rw [qN2 _ e,if_neg e]
def zH6 (T:List (List Rat)) (P:Nat->Bool) (p:List Rat) (a:Nat):Nat->List (List Rat)
 | 0=>T
 | x+1=>if P x then (zH6 T P p a x).set x (zJ5 (T.getD x []) (zB8 T x a) p) else zH6 T P p a x
theorem qN4 (T:List (List Rat)) (P:Nat->Bool) (p:List Rat) (a:Nat):∀ x,(zH6 T P p a x).length=T.length
  | 0=>rfl
  | x + 1 => by
    unfold zH6
    split
    · rw [zB2];exact qN4 T P p a x
    · exact qN4 T P p a x
theorem qN5 (T:List (List Rat)) (P:Nat->Bool) (p:List Rat) (a:Nat):∀ (x i:Nat),x<=i->(zH6 T P p a x)[i]?=T[i]?
  | 0,_,_=>rfl
  | x + 1, i, h => by
    unfold zH6
    split
    · rw [bW1 (by omega)];exact qN5 T P p a x i (by omega)
    · exact qN5 T P p a x i (by omega)
theorem qH9 {T:List (List Rat)} {P:Nat->Bool} {p:List Rat} {n C a:Nat} (hs:shp T n C) (hp:p.length=C):∀ x,x<=n->shp (zH6 T P p a x) n C
  | 0,_=>hs
  | x + 1, h => by
    unfold zH6
    split
    · obtain ⟨r,h1,h2⟩:=zI0 hs (show x<n by omega);refine qH8 (qH9 hs hp x (by omega)) ?_;rw [zA6,h1];show (zJ5 r _ p).length=C
      rw [qU5 (by omega)];exact h2
    · exact qH9 hs hp x (by omega)
theorem yI8 {T:List (List Rat)} {P:Nat->Bool} {p:List Rat} {n C a:Nat} (hs:shp T n C) (hp:p.length=C):∀ (x i j:Nat),x<=n->j<C->zB8 (zH6 T P p a x) i j=if i<x/\P i=true then zB8 T i j-zB8 T i a*p.getD j 0 else zB8 T i j
  | 0,i,j,_,_=>by rw [if_neg (by omega)];rfl
  | x + 1, i, j, h, hj => by
    have ih:=yI8 (P:=P) (a:=a) hs hp x i j (by omega) hj;unfold zH6;by_cases hP:P x=true
    · rw [if_pos hP];by_cases e:i=x
      · subst e;obtain ⟨r,h1,h2⟩:=zI0 hs (show i<n by omega);rw [qN1 _ (by rw [qN4,hs.1];omega),if_pos ⟨by omega,hP⟩,zK5 h1,zM6 h1 j];exact jG9 (by omega) (by omega)
      · rw [qN2 _ e,ih];by_cases e2:i<x/\P i=true
        · rw [if_pos e2,if_pos ⟨by omega,e2.2⟩]
        · rw [if_neg e2,if_neg (fun e3=>e2 ⟨by omega,e3.2⟩)]
    · rw [if_neg hP, ih];by_cases e2:i<x/\P i=true
      · rw [if_pos e2,if_pos ⟨by omega,e2.2⟩]
      · rw [if_neg e2,if_neg (fun e3=>e2 ⟨by
          have:=e3.1
          by_cases e4:i=x
          · subst e4;exact absurd e3.2 hP
          · omega,e3.2⟩)]
theorem qV8 {T:List (List Rat)} {P:Nat->Bool} {p r:List Rat} {a x:Nat} (hP:P x=true) (hr:T[x]?=some r):zH6 T P p a (x+1)=(zH6 T P p a x).set x (zJ5 r (zB8 T x a) p):=by
 show (if P x=true then _ else _)=_
 rw [if_pos hP,zK5 hr]
theorem jH2 {T:List (List Rat)} {P:Nat->Bool} {p r:List Rat} {a x:Nat} (hP:P x=true) (hr:T[x]?=some r) (h0:zB8 T x a=0) (hl:r.length=p.length):zH6 T P p a (x+1)=zH6 T P p a x:=by
 rw [qV8 hP hr,h0,jH0 hl];apply bX0;intro k;rw [List.getElem?_set];by_cases e:x=k
 ·subst e;rw [if_pos rfl,qN5 T P p a x x (zB3 _),hr,if_pos (by rw [qN4];exact (zA4.1 hr).1)]
 ·rw [if_neg e]
theorem yI9 {T:List (List Rat)} {P:Nat->Bool} {p:List Rat} {a x:Nat} (hP:P x=false):zH6 T P p a (x+1)=zH6 T P p a x:=by
 show (if P x=true then _ else _)=_
 rw [if_neg (by rw [hP];decide)]
def zM0 (r:List Rat) (S:Nat):Prop:=∃ d:Nat,0<d/\(digs 4294967296 d).length<=S /\ ∀ x∈r,∃ z:Int,x=mkRat z d/\zC2 z<=S
theorem zM0.mono {r:List Rat} {S S':Nat} (h:zM0 r S) (hS:S<=S'):zM0 r S':=by
 obtain ⟨d,h1,h2,h3⟩:=h;exact ⟨d,h1,by omega,fun x hx=>by obtain ⟨z,e,hz⟩:=h3 x hx;exact ⟨z,e,by omega⟩⟩
theorem zM0.len {r:List Rat} {S:Nat} (h:zM0 r S):∀ x∈r,zC3 x S:=fun x hx=>by
 obtain ⟨d,h1,h2,h3⟩:=h;obtain ⟨z,rfl,hz⟩:=h3 x hx;exact zR6 (by omega) hz h2
theorem qV9:∀ {r:List Rat} {m:Nat},(∀ x∈r,zC3 x m)->zM0 r (m*r.length+1)
  | [],m,_=>⟨1,by omega,by
      have:=zG7 (B:=4294967296) (x:=1) (k:=1) (by omega) (by decide +kernel)
      omega,fun x hx=>by simp at hx⟩
  | q :: r, m, h => by
    obtain ⟨d,h1,h2,h3⟩:=qV9 (r:=r) (m:=m) fun x hx=>h x (List.mem_cons_of_mem _ hx);have hq:=h q List.mem_cons_self;have e:m*(q :: r).length+1=m*r.length+1+m:=by rw [bX3,Nat.mul_succ];omega
    rw [e];refine ⟨d*q.den,Nat.mul_pos h1 q.den_pos,?_,fun x hx => ?_⟩
    · have h4:=zY5 d q.den;have h5:=hq.2;omega
    · rcases List.mem_cons.1 hx with rfl|hx
      · refine ⟨x.num*(d:Int),?_,?_⟩
        · rw [bY0 d x.den,Rat.mkRat_mul_right (by omega),Rat.mkRat_self]
        · have h4:=zQ8 hq.1 (show zC2 ((d:Nat):Int)<=m*r.length+1 by rw [zN6];exact h2);omega
      · obtain ⟨z,rfl,hz⟩:=h3 x hx;refine ⟨z*(q.den:Int),?_,?_⟩
        · rw [Rat.mkRat_mul_right q.den_nz]
        · have h4:=zQ8 hz (show zC2 ((q.den:Nat):Int)<=m by rw [zN6];exact hq.2);omega
theorem zT3 (z:Int) {d:Nat} (h:d≠0):mkRat z d=(z:Rat) / (d:Rat):=Rat.mkRat_eq_div z d
theorem zM0.scale {r:List Rat} {S:Nat} {x:Rat} (h:zM0 r S) (hx:x∈r) (h0:x≠0):zM0 (zH3 r x⁻¹) S:=by
 obtain ⟨d,h1,h2,h3⟩:=h;obtain ⟨b,rfl,hb⟩:=h3 x hx;have hb0:b≠0:=fun e=>h0 (by rw [e];exact Rat.zero_mkRat d)
 have hd:((d:Nat):Rat)≠0:=by
  intro e;have:d=0:=by exact_mod_cast e
  omega
 have hbr:((b:Int):Rat)≠0:=by
  intro e;have:b=0:=by exact_mod_cast e
  exact hb0 this
 refine ⟨b.natAbs,by omega,hb,fun y hy => ?_⟩;obtain ⟨u,hu,rfl⟩:=List.mem_map.1 hy;obtain ⟨a,rfl,ha⟩:=h3 u hu;rcases Int.natAbs_eq b with e | e
 ·refine ⟨a,?_,ha⟩
  have e2:((b.natAbs:Nat):Rat)=((b:Int):Rat):=by
   conv=>rhs;rw [e]
   exact (Rat.intCast_natCast _).symm
  rw [zT3 a (by omega),zT3 b (by omega),zT3 a (by omega),e2]
  grind
 ·refine ⟨-a,?_,by rw [qG];exact ha⟩
  have e2:((b.natAbs:Nat):Rat) = -((b:Int):Rat):=by
   conv=>rhs;rw [e]
   rw [Rat.intCast_neg];show _ = - -(((b.natAbs:Nat):Int):Rat)
   rw [Rat.intCast_natCast];grind
  rw [zT3 a (by omega),zT3 b (by omega),zT3 (-a) (by omega),e2,Rat.intCast_neg]
  grind
theorem qW {x y:Int} {m:Nat} (h:zC2 x<=m) (h':zC2 y<=m):zC2 (x-y)<=m+1:=by
 have h1:=yH h h';unfold zC2;refine zB4 (zG1 (by omega) ?_) h1;omega
theorem zM0.less {r p:List Rat} {S S':Nat} {x:Rat} (h:zM0 r S) (hp:zM0 p S') (hx:x∈r):zM0 (zJ5 r x p) (S+S'+1):=by
 obtain ⟨d,h1,h2,h3⟩:=h;obtain ⟨e,g1,g2,g3⟩:=hp;obtain ⟨b,rfl,hb⟩:=h3 x hx
 have hd:((d:Nat):Rat)≠0:=by
  intro e;have:d=0:=by exact_mod_cast e
  omega
 have he:((e:Nat):Rat)≠0:=by
  intro k;have:e=0:=by exact_mod_cast k
  omega
 refine ⟨d*e,Nat.mul_pos h1 g1,by have:=zY5 d e;omega,fun y hy => ?_⟩;obtain ⟨u,hu,v,hv,rfl⟩:=qM3 hy;obtain ⟨a,rfl,ha⟩:=h3 u hu;obtain ⟨c,rfl,hc⟩:=g3 v hv;refine ⟨a*(e:Int)-b*c,?_,?_⟩
 ·rw [zT3 a (by omega),zT3 b (by omega),zT3 c (by omega),zT3 _ (by have:=Nat.mul_pos h1 g1;omega),Rat.intCast_sub,Rat.intCast_mul,Rat.intCast_mul,Rat.intCast_natCast,Rat.natCast_mul]
  grind
 ·refine qW (m:=S+S') (zQ8 ha (by rw [zN6];exact g2)) (zQ8 hb hc)
def zH7 (T:List (List Rat)) (S:Nat):Prop:=∀ r∈T,zM0 r S
theorem zH7.mono {T:List (List Rat)} {S S':Nat} (h:zH7 T S) (hS:S<=S'):zH7 T S':=fun r hr=>(h r hr).mono hS
theorem zH7.len {T:List (List Rat)} {S:Nat} (h:zH7 T S):zD6 T S:=fun r hr=>(h r hr).len
theorem jH3 {T:List (List Rat)} {n C m:Nat} (hs:shp T n C) (h:zD6 T m):zH7 T (m*C+1):=fun r hr=>by
 rw [<- hs.2 r hr];exact qV9 (h r hr)
def pv (ps:List Nat):Nat->Nat:=fun i=>ps.getD i 0
theorem pv_snoc (ps:List Nat) (a i:Nat) (hi:i<ps.length+1):(if i<ps.length then pv ps i else a)=pv (ps ++ [a]) i:=by
 unfold pv;by_cases h:i<ps.length
 ·rw [if_pos h,zA6,zA6,zB0 h]
 ·obtain rfl:i=ps.length:=by omega
  rw [if_neg h,zA6,bW0 (by omega)];simp
theorem yJ {T:List (List Rat)} {P:Nat->Bool} {p:List Rat} {n C a k:Nat} (hs:shp T n C) (hk:T[k]?=some p) (ha:a<C) {x:Nat} (hx:x<=n) (i j:Nat) (hj:j<C):zB8 (zH6 T P p a x) i j=zI1 (zB8 T) k (fun i=>if i<x/\P i=true then zB8 T i a else 0) i j:=by
 have hp:p.length=C:=hs.2 p (zA5 hk);rw [yI8 hs hp x i j hx hj];unfold zI1;rw [zM6 hk j];by_cases e:i<x/\P i=true
 ·simp only [if_pos e]
 ·simp only [if_neg e];grind
theorem qI {T:List (List Rat)} {P:Nat->Bool} {p:List Rat} {a:Nat}:∀ x,(∀ i,i<x->P i=false)->zH6 T P p a x=T
 | 0,_=>rfl
 | x+1,h=>by rw [yI9 (h x (by omega))];exact qI x fun i hi=>h i (by omega)
theorem yJ0 {T:List (List Rat)} {n C a b S:Nat} (hs:shp T n C) (ha:a<n) (hb:b<n) (h:zH7 T S):zH7 (zI3 T a b) S:=by
 obtain ⟨r,h1,_⟩:=zI0 hs ha;obtain ⟨s,h3,_⟩:=zI0 hs hb;unfold zI3;rw [zK5 h1,zK5 h3];intro x hx;rcases bW3 hx with hx | rfl
 ·rcases bW3 hx with hx | rfl
  ·exact h x hx
  ·exact h _ (zA5 h3)
 ·exact h _ (zA5 h1)
theorem jH4 {T:List (List Rat)} {n C k a S:Nat} (hs:shp T n C) (hk:k<n) (ha:a<C) (h0:zB8 T k a≠0) (h:zH7 T S):zH7 (zP8 T k (zB8 T k a)⁻¹) S:=by
 obtain ⟨r,h1,_,h2⟩:=zW8 hs hk ha;unfold zP8;rw [zK5 h1];intro x hx;rcases bW3 hx with hx | rfl
 ·exact h x hx
 ·exact (h r (zA5 h1)).scale (zA5 h2) h0
theorem qN6 {T:List (List Rat)} {P:Nat->Bool} {p:List Rat} {n C a S:Nat} (hs:shp T n C) (ha:a<C) (h:zH7 T S) (hp:zM0 p S):∀ x,x<=n->zH7 (zH6 T P p a x) (S+S+1)
  | 0,_=>h.mono (by omega)
  | x + 1, hx => by
    have ih:=qN6 (P:=P) hs ha h hp x (by omega);obtain ⟨r,h1,_,h2⟩:=zW8 hs (show x<n by omega) ha;by_cases e:P x=true
    · rw [qV8 e h1];intro y hy;rcases bW3 hy with hy | rfl
      · exact ih y hy
      · exact (h r (zA5 h1)).less hp (zA5 h2)
    · rw [yI9 (by simpa using e)];exact ih
def zM7 (T:List (List Rat)) (P:Nat->Bool) (k f a n:Nat):List (List Rat) :=
 zH6 (zP8 (zI3 T k f) k (zB8 (zI3 T k f) k a)⁻¹) P ((zP8 (zI3 T k f) k (zB8 (zI3 T k f) k a)⁻¹).getD k []) a n
theorem jH5 {T:List (List Rat)} {k:Nat} (h:k<T.length):zI3 T k k=T:=by
 unfold zI3;have e:T.getD k []=T[k]:=by rw [zA6,zA3 h];rfl
 rw [e];apply bX0;intro i;rw [List.getElem?_set,List.getElem?_set,zB2];by_cases hi:k=i
 ·subst hi;rw [if_pos rfl,if_pos h,zA3 h]
 ·rw [if_neg hi,if_neg hi]
structure PivAt (T:List (List Rat)) (P:Nat->Bool) (n C k f a:Nat) (p:Nat->Nat):Prop where
 sh:shp T n C
 ech:Ech n a (zB8 T) k p
 ha:a<C
 hk:k<=f
 hf:f<n
 hne:zB8 T f a≠0
 hP:P k=false
theorem PivAt.inv {T:List (List Rat)} {P:Nat->Bool} {n C k f a:Nat} {p:Nat->Nat} (h:PivAt T P n C k f a p):zB8 T f a*(zB8 T f a)⁻¹ = 1:=Rat.mul_inv_cancel _ h.hne
theorem PivAt.inv_ne {T:List (List Rat)} {P:Nat->Bool} {n C k f a:Nat} {p:Nat->Nat} (h:PivAt T P n C k f a p):(zB8 T f a)⁻¹ ≠ 0:=fun e=>by
 have h1:=h.inv;rw [e] at h1
 revert h1
 rw [Rat.mul_zero]
 decide
theorem PivAt.head {T:List (List Rat)} {P:Nat->Bool} {n C k f a:Nat} {p:Nat->Nat} (h:PivAt T P n C k f a p):zB8 (zI3 T k f) k a=zB8 T f a:=by
 have h1:=h.hk;have h2:=h.hf;rw [qV7 h.sh (by omega) h.hf];exact congrFun (if_pos rfl) a
theorem PivAt.parts {T:List (List Rat)} {P:Nat->Bool} {n C k f a:Nat} {p:Nat->Nat} (h:PivAt T P n C k f a p) :
  ∃ (t:Nat->Rat),t k=0/\(∀ i,i<n->P i=true->t i=zE7 (zD4 (zB8 T) k f) k (zB8 T f a)⁻¹ i a) /\
   (∀ i j,j<C->zB8 (zM7 T P k f a n) i j=zI1 (zE7 (zD4 (zB8 T) k f) k (zB8 T f a)⁻¹) k t i j)/\shp (zM7 T P k f a n) n C/\zE7 (zD4 (zB8 T) k f) k (zB8 T f a)⁻¹ k a=1:=by
 have h1:=h.hk;have h2:=h.hf;have hk:k<n:=by omega
 have s1:=qN3 h.sh hk h2;have s2:=yI7 (zB8 (zI3 T k f) k a)⁻¹ s1 hk
 have e2:∀ i j,j<C->zB8 (zP8 (zI3 T k f) k (zB8 (zI3 T k f) k a)⁻¹) i j=zE7 (zD4 (zB8 T) k f) k (zB8 T f a)⁻¹ i j:=fun i j hj=>by
  rw [jH1 _ s1 hk i j hj,h.head];unfold zE7;rw [qV7 h.sh hk h2]
 obtain ⟨r,hr,hrl⟩:=zI0 s2 hk;have hP:¬ (k<n/\P k=true):=fun e=>by rw [h.hP] at e;exact absurd e.2 (by decide)
 refine ⟨fun i=>if i<n/\P i=true then zB8 (zP8 (zI3 T k f) k (zB8 (zI3 T k f) k a)⁻¹) i a else 0,if_neg hP,fun i h3 h4 => ?_,fun i j hj => ?_,?_,?_⟩
 ·show (if i<n/\P i=true then _ else _)=_
  rw [if_pos ⟨h3,h4⟩,e2 i a h.ha]
 ·unfold zM7;rw [zK5 hr,yJ s2 hr h.ha (zB3 n) i j hj];unfold zI1;rw [e2 i j hj,e2 k j hj]
 ·unfold zM7;rw [zK5 hr];exact qH9 s2 hrl n (zB3 n)
 ·unfold zE7 zD4;rw [if_pos rfl,if_pos rfl];exact h.inv
theorem PivAt.ker {T:List (List Rat)} {P:Nat->Bool} {n C k f a:Nat} {p:Nat->Nat} (h:PivAt T P n C k f a p):zF3 n C (zB8 T) (zB8 (zM7 T P k f a n)):=by
 obtain ⟨t,t0,t1,e,_,_⟩:=h.parts;have h1:=h.hk;have h2:=h.hf;exact (qV1 (zB8 T) (show k<n by omega) h2).trans ((qV2 _ h.inv_ne).trans ((qN _ (show k<n by omega) t0).trans (qC8 fun i j _ hj=>(e i j hj).symm)))
theorem PivAt.ech' {T:List (List Rat)} {P:Nat->Bool} {n C k f a:Nat} {p:Nat->Nat} (h:PivAt T P n C k f a p) (hb:∀ i,k<i->i<n->P i=true):Ech n (a+1) (zB8 (zM7 T P k f a n)) (k+1) (fun i=>if i<k then p i else a):=by
 obtain ⟨t,t0,t1,e,_,e1⟩:=h.parts;have h1:=h.hk;have h2:=h.hf;have h3:=h.ha;exact (((h.ech.swap h1 h2).scale (zB8 T f a)⁻¹).clear (by omega) e1 t0 (fun i hi hn=>t1 i hn (hb i hi hn))).congr (C:=C) (by omega) (fun i j _ hj=>(e i j hj).symm) (fun _ _=>rfl)
theorem PivAt.fn {T:List (List Rat)} {P:Nat->Bool} {n C k f a:Nat} {p:Nat->Nat} (h:PivAt T P n C k f a p) {C':Nat} {F:(Nat->Nat->Rat)->Rat} (hC:C'<=C) (hF:RowFn n C' F):F (zB8 T)=(if f=k then 1 else -1)*zB8 T f a*F (zB8 (zM7 T P k f a n)):=by
 obtain ⟨t,t0,t1,e,_,e1⟩:=h.parts;have h1:=h.hk;have h2:=h.hf
 have g1:F (zB8 (zM7 T P k f a n))=(zB8 T f a)⁻¹ * F (zD4 (zB8 T) k f):=by
  rw [hF.congr _ _ (fun i j _ hj=>e i j (by omega)),hF.clear _ (show k<n by omega) t0,hF.scale _ _ _ (by omega)]
 have hi:=h.inv;rw [g1];by_cases ef:f=k
 ·subst ef
  have g2:F (zD4 (zB8 T) f f)=F (zB8 T):=hF.congr _ _ fun i j _ _=>by
   unfold zD4;by_cases e5:i=f
   ·rw [if_pos e5,e5]
   ·rw [if_neg e5,if_neg e5]
  rw [g2,if_pos rfl];grind
 ·rw [hF.swap _ (show k<n by omega) h2 (fun e=>ef e.symm),if_neg ef];grind
theorem PivAt.rows {T:List (List Rat)} {P:Nat->Bool} {n C k f a S:Nat} {p:Nat->Nat} (h:PivAt T P n C k f a p) (hl:zH7 T S):zH7 (zP8 (zI3 T k f) k (zB8 (zI3 T k f) k a)⁻¹) S/\zH7 (zM7 T P k f a n) (S+S+1)/\((∀ i,i<n->P i=false)->zH7 (zM7 T P k f a n) S):=by
 have h1:=h.hk;have h2:=h.hf;have hk:k<n:=by omega
 have s1:=qN3 h.sh hk h2;have s2:=yI7 (zB8 (zI3 T k f) k a)⁻¹ s1 hk;have r1:=yJ0 h.sh hk h2 hl;have r2:=jH4 s1 hk h.ha (by rw [h.head];exact h.hne) r1;obtain ⟨r,hr,hrl⟩:=zI0 s2 hk;refine ⟨r2,?_,fun hn => ?_⟩
 ·unfold zM7;rw [zK5 hr];exact qN6 s2 h.ha r2 (r2 r (zA5 hr)) n (zB3 n)
 ·unfold zM7;rw [qI n hn];exact r2
structure Dwn (T0 T:List (List Rat)) (n C a:Nat) (ps:List Nat) (d:Rat) (S:Nat):Prop where
 sh:shp T n C
 ech:Ech n a (zB8 T) ps.length (pv ps)
 ker:zF3 n C (zB8 T0) (zB8 T)
 fn:∀ (C':Nat) (F:(Nat->Nat->Rat)->Rat),C'<=C->RowFn n C' F->F (zB8 T0)=d*F (zB8 T)
 ne:d≠0
 len:∃ S',zH7 T S'/\S'+1<=(S+1)*2^(min ps.length (n-1))
theorem Dwn.start {T:List (List Rat)} {n C S:Nat} (hs:shp T n C) (hl:zH7 T S):Dwn T T n C 0 [] 1 S :=
 ⟨hs,Ech.zero n _ _,zF3.refl _ _ _,fun C' F _ _=>(Rat.one_mul _).symm,by decide,⟨S,hl,by simp⟩⟩
theorem Dwn.skip {T0 T:List (List Rat)} {n C a S:Nat} {ps:List Nat} {d:Rat} (h:Dwn T0 T n C a ps d S) (h0:∀ i,ps.length<=i->i<n->zB8 T i a=0):Dwn T0 T n C (a+1) ps d S :=
 ⟨h.sh,h.ech.skip h0,h.ker,h.fn,h.ne,h.len⟩
theorem Dwn.at_ {T0 T:List (List Rat)} {n C a f S:Nat} {ps:List Nat} {d:Rat} (h:Dwn T0 T n C a ps d S) (ha:a<C) (hk:ps.length<=f) (hf:f<n) (hne:zB8 T f a≠0):PivAt T (fun i=>decide (ps.length<i)) n C ps.length f a (pv ps) :=
 ⟨h.sh,h.ech,ha,hk,hf,hne,by simp⟩
theorem qW0 {S S' m:Nat} (h:S'+1<=(S+1)*2^m):S'+S'+1+1<=(S+1)*2^(m+1):=by
 rw [bY1,<- bX8];omega
theorem Dwn.pivot {T0 T:List (List Rat)} {n C a f S:Nat} {ps:List Nat} {d:Rat} (h:Dwn T0 T n C a ps d S) (ha:a<C) (hk:ps.length<=f) (hf:f<n) (hne:zB8 T f a≠0):Dwn T0 (zM7 T (fun i=>decide (ps.length<i)) ps.length f a n) n C (a+1) (ps ++ [a]) ((if f=ps.length then d else -d)*zB8 T f a) S:=by
 have g:=h.at_ ha hk hf hne;obtain ⟨t,t0,t1,e,s3,e1⟩:=g.parts;have hl:(ps ++ [a]).length=ps.length+1:=by simp
 refine ⟨s3,?_,h.ker.trans g.ker,fun C' F hC hF => ?_,?_,?_⟩
 ·rw [hl];exact (g.ech' (fun i hi _=>by simpa using hi)).congr (C:=C) (by omega) (fun _ _ _ _=>rfl) (fun i hi=>pv_snoc ps a i hi)
 ·rw [h.fn C' F hC hF,g.fn hC hF];by_cases ef:f=ps.length
  ·rw [if_pos ef,if_pos ef];grind
  ·rw [if_neg ef,if_neg ef];grind
 ·intro e0;rcases Rat.mul_eq_zero.1 e0 with h1 | h1
  ·have:=h.ne
   by_cases ef:f=ps.length
   ·rw [if_pos ef] at h1;exact this h1
   ·rw [if_neg ef] at h1;grind
  ·exact hne h1
 ·obtain ⟨S',r,hS⟩:=h.len;obtain ⟨_,r2,r3⟩:=g.rows r;rw [hl];by_cases hn:ps.length+1<n
  ·refine ⟨_,r2,?_⟩;rw [show min (ps.length+1) (n-1)=ps.length+1 by omega];rw [show min ps.length (n-1)=ps.length by omega] at hS;exact qW0 hS
  ·refine ⟨_,r3 (fun i hi=>by simp;omega),?_⟩;rw [show min (ps.length+1) (n-1)=n-1 by omega];rw [show min ps.length (n-1)=n-1 by omega] at hS;exact hS
structure Upw (T0 T:List (List Rat)) (n C a:Nat) (ps:List Nat) (u S:Nat):Prop where
 sh:shp T n C
 ech:Ech n a (zB8 T) ps.length (pv ps)
 red:Red n (zB8 T) ps.length (pv ps) u
 ker:zF3 n C (zB8 T0) (zB8 T)
 len:∃ S',zH7 T S'/\S'+1<=(S+1)*2^(ps.length-max u 1)
theorem Upw.start {T0 T:List (List Rat)} {n C a S:Nat} {ps:List Nat} (hs:shp T n C) (he:Ech n a (zB8 T) ps.length (pv ps)) (hk:zF3 n C (zB8 T0) (zB8 T)) (hl:zH7 T S):Upw T0 T n C a ps ps.length S :=
 ⟨hs,he,fun m h1 h2=>by omega,hk,S,hl,by rw [show ps.length-max ps.length 1=0 by omega];simp⟩
def upT (T:List (List Rat)) (m b:Nat):List (List Rat):=zH6 T (fun _=>true) (T.getD m []) b m
theorem Upw.step {T0 T:List (List Rat)} {n C a m S:Nat} {ps:List Nat} (h:Upw T0 T n C a ps (m+1) S) (ha:a<=C) (hm:m<ps.length):Upw T0 (upT T m (pv ps m)) n C a ps m S:=by
 have hle:=h.ech.le;have hlt:=h.ech.lt m hm;obtain ⟨r,hr,hrl⟩:=zI0 h.sh (show m<n by omega)
 have e:∀ i j,j<C->zB8 (upT T m (pv ps m)) i j=zI1 (zB8 T) m (fun i=>if i<m then zB8 T i (pv ps m) else 0) i j:=fun i j hj=>by
  unfold upT;rw [zK5 hr,yJ h.sh hr (show pv ps m<C by omega) (show m<=n by omega) i j hj];unfold zI1;by_cases e:i<m
  ·simp [e]
  ·simp [e]
 have t1:∀ i,m<=i->(fun i=>if i<m then zB8 T i (pv ps m) else 0) i=0:=fun i hi=>if_neg (by omega);have t2:∀ i,i<m->(fun i=>if i<m then zB8 T i (pv ps m) else 0) i=zB8 T i (pv ps m):=fun i hi=>if_pos hi;refine ⟨?_,?_,?_,?_,?_⟩
 ·unfold upT;rw [zK5 hr];exact qH9 h.sh hrl m (by omega)
 ·exact (h.ech.up hm t1).congr (C:=C) ha (fun i j _ hj=>(e i j hj).symm) (fun _ _=>rfl)
 ·exact (h.red.up h.ech hm t1 t2).congr (C:=C) (fun i hi=>by have:=h.ech.lt i hi;omega) (fun i j _ hj=>(e i j hj).symm) (fun _ _=>rfl)
 ·exact h.ker.trans ((qN _ (show m<n by omega) (t1 m (zB3 m))).trans (qC8 fun i j _ hj=>(e i j hj).symm))
 ·obtain ⟨S',r1,hS⟩:=h.len;by_cases h0:m=0
  ·subst h0;exact ⟨S',r1,hS⟩
  ·refine ⟨S'+S'+1,?_,?_⟩
   ·unfold upT;rw [zK5 hr];exact qN6 h.sh (by omega) r1 (r1 r (zA5 hr)) m (by omega)
   ·rw [show ps.length-max m 1=(ps.length-max (m+1) 1)+1 by omega];exact qW0 hS
end rat
namespace flow
open Go.RowKit num mem whl rat
def pone (φ : Pd):Pd:=⟨fun w v => ∃ g x y z,v=.slice (some ⟨g,0,none⟩) 1 1/\w.cell? ((⟨g,0,none⟩:Addr).add 0)=some x/\w.cell? ((⟨g,0,none⟩:Addr).add 1)=some y/\w.cell? ((⟨g,0,none⟩:Addr).add 2)=some z /\ φ.p w (.agg #[x,y,z]),fun h hb=>by
 obtain ⟨g,x,y,z,h0,h1,h2,h3,h4⟩:=h;exact ⟨g,x,y,z,h0,(hb.cell (bQ0 _ _ h1)).trans h1,(hb.cell (bQ0 _ _ h2)).trans h2,(hb.cell (bQ0 _ _ h3)).trans h3,φ.up h4 hb⟩⟩
section
variable {P:Program} {Q:Exit->Act->World->Prop} {ops:Array Oper} {L:List Oper} {Φ : List Pd} {w0:World} {a0:Act} {i:Nat} {o:Oper}
theorem jH6 {t T:TypeId} {x:Operand} {φ : Pd} {F:World->Value->Prop} (hop:o.op=.buildSlice t 1 #[(0,x)]) (hg:o.guard=none) (hx:Ev L Φ w0 a0 o x F) (hu:P.underlying t=some (.slice T)) (hI:∃ i,P.info? T=some i/\i.zero=some (.agg #[.bool false,.slice none 0 0,.slice none 0 0])/\i.size=3/\i.bytes=56)
  (hF:∀ w v,F w v -> φ.p w v /\ ∃ a b c,v=.agg #[a,b,c]/\a.oneCell'=true/\b.oneCell'=true/\c.oneCell'=true) (hP:∀ w v,(pone φ).p w v->(ph Φ i).p w v):Ob P Q ops L Φ w0 a0 i o:=by
 intro ms w hS;rw [if_pos (zB5 (ops:=ops) (L:=L) (Φ:=Φ) (w0:=w0) (a0:=a0) hg ms w hS)];obtain ⟨h1,a,b,c,hv,ka,kb,kc⟩:=hF _ _ (hx ms w hS);obtain ⟨inf,hi,hz,hs,hb⟩:=hI
 have hr:(execOp (zD9 a0 L ms).eval o).run P w=.ok (.value (.slice (some ⟨w.heap.size,0,none⟩) 1 1)) (w.alloc (.cells #[a,b,c] T)):=by
  generalize zD9 a0 L ms=A at hv
  have hz0:(zeroValue T).run P w=.ok (.agg #[.bool false,.slice none 0 0,.slice none 0 0]) w:=by simp [zeroValue,go_sem,typeInfo,hi,hz]
  simp only [hop,execOp,bX7,List.map_cons,List.map_nil,hv]
  generalize A.eval=ev
  simp [go_sem,run_underlying hu,sizeOf,typeInfo,hi,newRow,hs,hz0]
 unfold Oper.wp;rw [hr];obtain ⟨c0,c1,c2⟩:=qC4 w T a b c;have hbb:=zC9 (w:=w) (zB3 _) (.cells #[a,b,c] T);exact ⟨_,rfl,hbb,hP _ _ ⟨_,a,b,c,rfl,c0,c1,c2,φ.up (hv ▸ h1) hbb⟩,fun h=>by unfold isA at h;rw [hop] at h;cases h⟩
end
end flow
namespace rat
open Go.RowKit num mem nat txt str flow whl
end rat
namespace whl
open Go.RowKit num mem nat txt str flow
def prf (z:Int) (B:Nat):Pd:=⟨fun w v=>IsR w v z/\zQ6 B v,fun h hb=>⟨h.1.bQ hb,h.2⟩⟩
def qN7 (z:Int) (w:World) (e:Ending) (w':World):Prop:=∃ v,e=.returned v/\IsR w' v z/\zQ6 w.heap.size v/\Below w.heap.size w w'
theorem qN7.pd {z:Int} {w:World} {e:Ending} {w':World} {B:Nat} (h:qN7 z w e w') (hB:B<=w.heap.size):zI2 (prf z B) w e w':=by
 obtain ⟨v,h1,h2,h3,h4⟩:=h;exact ⟨v,h1,⟨h2,h3.mono hB⟩,h4⟩
theorem jH7 (b:Bool) (u:Value) (x:Nat) (z:Int) (w:World) {B:Nat} (h:IsS w .i64 u (digs 10000 x)) (hf:zE5 B u) (hz:sg b x=z):Calls prog 74 #[.bool b,u] w (zI2 (prf z B) w) :=
 (yF5 b u x w h).mono fun e w' h'=>⟨_,h'.1,⟨zZ2 (h.bQ h'.2) (by rw [<- hz,zU6]) (by rw [hz]),zM3 hf⟩,h'.2⟩
end whl
namespace rat
open Go.RowKit num mem nat txt str flow whl
theorem jH8 (a0:Value) (x:Int) (w:World) (h0:IsZ w a0 x) (hl:zC2 x<=30000) :
  Calls prog 105 #[a0] w (qN7 x w):=by
 obtain ⟨u0,rfl,s0⟩:=h0;obtain ⟨A0,c0,rfl,_⟩:=id s0;have HL:Hid ((digs 4294967296 x.natAbs).length<=100000):=by show _<=_;unfold zC2 at hl;omega
 have HZ:Hid (sg (ngB x) x.natAbs=x):=by show _=_;exact zW1 x
 go_enter func105,ntmps105
 go_upto_region 1 with (fail)
 obtain ⟨wx,hwx,bb,B0,B1,hsz⟩:=zK3 w 42 52 #[.bool (ngB x),.slice A0 (digs 4294967296 (x).natAbs).length c0] #[.bool false,.slice none 0 0];rw [hwx];clear hwx;have k0s:=s0.bQ bb;have k0:IsZ wx (.agg #[.bool (ngB x),.slice A0 (digs 4294967296 (x).natAbs).length c0]) (x):=zG k0s rfl rfl;have hszb:=bb.size;refine flow 6 [Pd.eq (.pointer (some ⟨w.heap.size,0,none⟩)),Pd.eq (.bool (ngB x)),Pd.eq (.pointer (some ⟨w.heap.size,1,none⟩)),Pd.eq (.slice A0 (digs 4294967296 (x).natAbs).length c0),ps .i64 (digs 10000 x.natAbs) wx.heap.size,prf (x) wx.heap.size] (by kernel_rfl) (by kernel_rfl) ?ob1 ?done1
 case ob1 =>
  refine zA (zC4 rfl (zB5 rfl) (zB7 rfl rfl) (fun _=>by kernel_rfl) (fun _=>rfl)) ?_;refine zA (zC1 rfl (zB5 rfl) (zB6 (j:=0) (by kernel_rfl) rfl rfl) (fun w2 hb=>zD underlying4 rfl ((B0.drew.bQ hb).cell 0)) (fun _ _=>rfl)) ?_;refine zA (zC4 rfl (zB5 rfl) (zB7 rfl rfl) (fun _=>by kernel_rfl) (fun _=>rfl)) ?_;refine zA (zC1 rfl (zB5 rfl) (zB6 (j:=2) (by kernel_rfl) rfl rfl) (fun w2 hb=>zD underlying40 rfl ((B0.drew.bQ hb).cell 1)) (fun _ _=>rfl)) ?_;refine zA (zE8 rfl func107 (by kernel_rfl) (zB5 rfl) (zB6 (j:=3) (by kernel_rfl) rfl rfl) (fun w2 u0 hb h0=>by obtain rfl:=h0;exact (qE4 _ _ _ (k0s.drew.bQ hb) HL.out).mono fun e w3 h=>zD7.pd h hb.size)) ?_;refine zA (zD8 rfl func74 (by kernel_rfl) (zB5 rfl) (zB6 (j:=1) (by kernel_rfl) rfl rfl) (zB6 (j:=4) (by kernel_rfl) rfl rfl) (fun w2 u0 u1 hb h0 h1=>by obtain rfl:=h0;exact jH7 _ _ _ (x) _ h1.1 h1.2 HZ.out)) ?_
  trivial
 case done1 =>
  refine fun w1 hb1 v0 h0 v1 h1 v2 h2 v3 h3 v4 h4 v5 h5 b hbf => ?_;obtain rfl:=h0;obtain rfl:=h1;obtain rfl:=h2;obtain rfl:=h3;obtain ⟨q4,f4⟩:=h4;obtain ⟨q5,f5⟩:=h5;simp only [Act.put,zA0,zA2,zA1] at hbf;subst hbf;obtain ⟨u5,rfl,q5⟩:=q5;obtain ⟨A9,c9,rfl,_⟩:=id q5;have B9:=B1.bQ hb1;refine zL8 (i:=6) (by kernel_rfl) rfl rfl rfl rfl rfl rfl (cells:=[.bool (ngB (x)),.slice A9 (digs 10000 (x).natAbs).length c9]) rfl B9 rfl (by kernel_rfl) (zJ1 rfl rfl) fun w9 hg9 BB9 => ?_;have k9:=off q5 B9 no_ints2 hg9;have f9:=(f5 _ _ rfl).mono (show w.heap.size<=wx.heap.size from bb.size);have bb9:=((bb.trans (hb1.mono bb.size)).trans ((Below.refl _ _).grown hg9 (zB4 bb.size hb1.size) (fun g hg=>by injection hg with hg;omega)));obtain ⟨c0,c1,_,_⟩:=Blk.two BB9;refine zJ0 (by kernel_rfl) ?_;go_wp2;exact bodyPost_ret (v:=.agg #[.bool (ngB (x)),.slice A9 (digs 10000 (x).natAbs).length c9]) (by simp [results,results105,go_sem,c0,c1]) rfl ⟨_,rfl,zZ2 k9 rfl rfl,zM3 f9,bb9⟩
theorem jH9 (a0:Value) (q:Rat) (w:World) (h0:IsQ w a0 q) (hl:zC3 q 30000) :
  Calls prog 71 #[a0] w (zZ5 q w):=by
 obtain ⟨u0,t0,rfl,s0,r0⟩:=h0;obtain ⟨A0,c0,rfl,_⟩:=id s0;obtain ⟨D0,e0,rfl,_⟩:=id r0
 go_enter func71,ntmps71
 go_upto_region 1 with (fail)
 obtain ⟨wx,hwx,bb,B0,BR0,hsz⟩:=zK3 w 44 54 #[.bool (ngB (q).num),.slice A0 (digs 4294967296 (q).num.natAbs).length c0,.slice D0 (digs 4294967296 (q).den).length e0] #[.bool false,.slice none 0 0,.slice none 0 0];rw [hwx];clear hwx;have k0s:=s0.bQ bb;have k0d:=r0.bQ bb;have k0z:IsZ wx (.agg #[.bool (ngB (q).num),.slice A0 (digs 4294967296 (q).num.natAbs).length c0]) (q).num:=⟨_,rfl,k0s⟩;have k0:IsQ wx (.agg #[.bool (ngB (q).num),.slice A0 (digs 4294967296 (q).num.natAbs).length c0,.slice D0 (digs 4294967296 (q).den).length e0]) (q):=⟨_,_,rfl,k0s,k0d⟩;have hsz0:=bb.size;have sB:=bb.size;refine flow 7 [Pd.eq (.pointer (some ⟨w.heap.size,0,none⟩)),Pd.eq (.agg #[.bool (ngB (q).num),.slice A0 (digs 4294967296 (q).num.natAbs).length c0]),prf ((q).num) wx.heap.size,Pd.eq (.pointer (some ⟨w.heap.size,2,none⟩)),Pd.eq (.slice D0 (digs 4294967296 (q).den).length e0),ps .i64 (digs 10000 (q).den) wx.heap.size,ppf (q) wx.heap.size] (by kernel_rfl) (by kernel_rfl) ?ob2 ?done2
 case ob2 =>
  refine zA (zC4 rfl (zB5 rfl) (zB7 rfl rfl) (fun _=>by kernel_rfl) (fun _=>rfl)) ?_;refine zA (zC1 rfl (zB5 rfl) (zB6 (j:=0) (by kernel_rfl) rfl rfl) (fun w2 hb=>zW4 underlying42 rfl (by kernel_rfl) (B0.drew.bQ hb) rfl) (fun _ _=>rfl)) ?_;refine zA (zE8 rfl func105 (by kernel_rfl) (zB5 rfl) (zB6 (j:=1) (by kernel_rfl) rfl rfl) (fun w2 u0 hb h0=>by obtain rfl:=h0;exact (jH8 _ _ _ (k0z.drew.bQ hb) (zB4 hl.1 (by decide))).mono fun e w3 h=>qN7.pd h hb.size)) ?_;refine zA (zC4 rfl (zB5 rfl) (zB7 rfl rfl) (fun _=>by kernel_rfl) (fun _=>rfl)) ?_;refine zA (zC1 rfl (zB5 rfl) (zB6 (j:=3) (by kernel_rfl) rfl rfl) (fun w2 hb=>zD underlying40 rfl ((B0.drew.bQ hb).cell 2)) (fun _ _=>rfl)) ?_;refine zA (zE8 rfl func107 (by kernel_rfl) (zB5 rfl) (zB6 (j:=4) (by kernel_rfl) rfl rfl) (fun w2 u0 hb h0=>by obtain rfl:=h0;exact (qE4 _ _ _ (k0d.drew.bQ hb) (zB4 hl.2 (by decide))).mono fun e w3 h=>zD7.pd h hb.size)) ?_;refine zA (zM5 rfl (zB5 rfl) (zB6 (j:=2) (by kernel_rfl) rfl rfl) (zB6 (j:=5) (by kernel_rfl) rfl rfl) (fun w2 u v hb hu hv=>by obtain ⟨u7,rfl,hu7⟩:=hu.1;obtain ⟨A7,c7,rfl,_⟩:=id hu7;obtain ⟨A8,c8,rfl,_⟩:=id hv.1;exact ⟨.agg #[.bool (ngB (q).num),.slice A7 (digs 10000 (q).num.natAbs).length c7,.slice A8 (digs 10000 (q).den).length c8],by kernel_rfl,⟨⟨_,_,rfl,hu7,hv.1⟩,zM4 (hu.2 _ _ rfl) hv.2⟩⟩)) ?_
  trivial
 case done2 =>
  refine fun w11 hb11 v0 h0 v1 h1 v2 h2 v3 h3 v4 h4 v5 h5 v6 h6 b hbf => ?_;obtain rfl:=h0;obtain rfl:=h1;obtain rfl:=h3;obtain rfl:=h4;obtain ⟨q2,f2⟩:=h2;obtain ⟨q5,f5⟩:=h5;obtain ⟨q6,f6⟩:=h6;simp only [Act.put,zA0,zA2,zA1] at hbf;subst hbf;replace B0:=B0.bQ hb11;replace k0s:=k0s.bQ hb11;replace k0d:=k0d.bQ hb11;replace k0z:=k0z.bQ hb11;replace k0:=k0.bQ hb11;replace BR0:=BR0.bQ hb11;replace bb:=bb.trans (hb11.mono bb.size);have hsz11:=bb.size;have s_2:=sB;have s_5:=sB;have s_6:=sB;obtain ⟨u6,t6,rfl,q6,d6⟩:=q6;obtain ⟨A9,c9,rfl,_⟩:=id q6;obtain ⟨D9,e9,rfl,_⟩:=id d6;refine zL8 (i:=7) (by kernel_rfl) rfl rfl rfl rfl rfl rfl (cells:=[.bool (ngB (q).num),.slice A9 (digs 10000 (q).num.natAbs).length c9,.slice D9 (digs 10000 (q).den).length e9]) rfl BR0 rfl (by kernel_rfl) (zH2 rfl rfl rfl) fun w9 hg9 B9 => ?_;have k9:=off q6 BR0 zD3 hg9;have d9:=off d6 BR0 zD3 hg9;have f9:=f6.mono (show w.heap.size<=_ from s_6);have bb9:=bb.trans ((Below.refl _ _).grown hg9 bb.size (fun g hg=>by injection hg with hg;omega));obtain ⟨C0,C1,C2,_,_,_⟩:=three B9;refine zJ0 (by kernel_rfl) ?_;go_wp2;exact bodyPost_ret (v:=.agg #[.bool (ngB (q).num),.slice A9 (digs 10000 (q).num.natAbs).length c9,.slice D9 (digs 10000 (q).den).length e9]) (by simp [results,results71,go_sem,C0,C1,C2]) rfl ⟨_,rfl,⟨_,_,rfl,k9,d9⟩,f9,bb9⟩
theorem SlF.drew {k:IntKind} {B:Nat} {w:World} {v:Value} {qs:List Rat} (h:SlF k B w v qs):SlF k B w.drew v qs:=h
theorem SlF.off {k:IntKind} {B:Nat} {w w':World} {v:Value} {qs:List Rat} {g:Nat} {e:TypeId} {cs:Array Value} (h:SlF k B w v qs) (hB:w.heap[g]?=some (.cells cs e (0,0))) (hno:∀ c∈cs,∀ n,c ≠ .int k n) (hg:w.grownBy w' (some g)) (hne:v.ownBlock≠some g):SlF k B w' v qs:=by
 obtain ⟨ps,e1,⟨A,c,rfl,h1,h2,h3⟩,h4⟩:=h
 have key:∀ (g2 o2:Nat) (x:Value),A=some ⟨g2,o2,none⟩ -> ∀ j,w.cell? ⟨g2,j,none⟩=some x->w'.cell? ⟨g2,j,none⟩=some x:=fun g2 o2 x hA j hc=>by
  subst hA;have hne2:g2≠g:=fun e=>hne (by subst e;rfl);have hb:=hg.block g2 (bQ0 w _ hc) (fun e=>hne2 (by injection e));rw [<- hc];simp only [World.cell?,hb]
 refine ⟨ps,e1,⟨A,c,rfl,h1,h2,fun i p hp => ?_⟩,fun p hp=>⟨flow.off (h4 p hp).1 hB hno hg,flow.off (h4 p hp).2 hB hno hg⟩⟩;obtain ⟨g2,o2,hA,c0,c1,c2⟩:=h3 i p hp;exact ⟨g2,o2,hA,key g2 o2 _ hA _ c0,key g2 o2 _ hA _ c1,key g2 o2 _ hA _ c2⟩
def RetSl (qs:List Rat) (w:World) (e:Ending) (w':World):Prop:=∃ V,e=.returned V/\SlF .u64 4294967296 w' V qs/\Below w.heap.size w w'
theorem SlF.at2 {k:IntKind} {B:Nat} {w:World} {g o n c:Nat} {qs:List Rat} {i:Nat} {q:Rat} (h:SlF k B w (.slice (some ⟨g,o,none⟩) n c) qs) (hq:qs[i]?=some q):∃ u t,i<n/\w.cell? ⟨g,o+i*3,none⟩=some (.bool (ngB q.num))/\w.cell? ⟨g,o+i*3+1,none⟩=some u/\w.cell? ⟨g,o+i*3+2,none⟩=some t/\IsS w k u (digs B q.num.natAbs)/\IsS w k t (digs B q.den):=by
 obtain ⟨g',o',u,t,hA,h1,h2,h3,h4,h5,h6⟩:=h.at_ hq;injection hA with hA;injection hA with e1 e2;subst e1;subst e2;exact ⟨u,t,h1,h2,h3,h4,h5,h6⟩
theorem SlF.place {k:IntKind} {B:Nat} {w:World} {v:Value} {qs:List Rat} (h:SlF k B w v qs) (hne:qs≠[]):∃ g o c,v=.slice (some ⟨g,o,none⟩) qs.length c/\g<w.heap.size/\qs.length<=c/\c<=maxLen:=by
  obtain ⟨A,c,rfl,h1,h2⟩:=h.shape
  cases qs with
  | nil=>exact absurd rfl hne
  | cons q qs =>
    obtain ⟨g,o,u,t,rfl,_,hc,_⟩:=h.at_ (i:=0) (q:=q) rfl;exact ⟨g,o,c,rfl,bQ0 w _ hc,h1,h2⟩
theorem SlF.any {k:IntKind} {B:Nat} {w w':World} {v:Value} (h:SlF k B w v []):SlF k B w' v []:=by
 obtain ⟨ps,hp,⟨A,c,h1,h2,h3,_⟩,_⟩:=h;obtain rfl:ps=[]:=List.map_eq_nil_iff.1 hp;exact ⟨[],rfl,⟨A,c,h1,h2,h3,fun i p hp=>by simp at hp⟩,fun p hp=>by cases hp⟩
section
variable {P:Program}
theorem yJ1 {t:TypeId} (x y:Operand) (a b:Nat) (h:a+b<=9223372036854775807) (w:World):(do eqGuard .add t x y (.int .i64 (a:Int)) (.int .i64 (b:Int));binOp .add t (.int .i64 (a:Int)) (.int .i64 (b:Int))).run P w=.ok (.int .i64 ((a+b:Nat):Int)) w:=by
 have h0:(eqGuard .add t x y (.int .i64 (a:Int)) (.int .i64 (b:Int))).run P w=.ok () w:=by simp [eqGuard]
 have e:IntKind.i64.wrap ((a:Int)+(b:Int))=((a+b:Nat):Int):=by rw [IntKind.wrap_i64];omega
 rw [Sem.run_bind,h0,Result.andThen_ok];simp [binOp,Op.intArith,go_sem,e]
end
def Two (w:World) (v:Value) (p q:List Rat):Prop:=∃ u0 u1,IsV w v [u0,u1]/\SlF .u64 4294967296 w u0 p/\SlF .u64 4294967296 w u1 q
section
variable {P:Program} {Q:Exit->Act->World->Prop} {ops:Array Oper} {L:List Oper} {Φ : List Pd} {w0:World} {a0:Act} {i:Nat} {o:Oper}
end
end rat
namespace rat
open Go.RowKit Go.ChangeShapes Go.WideShapes Go.ChangeAt Go.Joins Go.Deep num mem nat txt str flow whl
theorem zZ6.bQ {w w':World} {v:Value} (h:zZ6 w v) (hb:Below w.heap.size w w'):zZ6 w' v:=by
 obtain ⟨A,n,c,e,h1,h2,h3⟩:=h;refine ⟨A,n,c,e,h1,h2,fun i hi => ?_⟩;obtain ⟨ad,b,u,t,l,m,e2,c0,c1,c2,k1,k2,k3,k4⟩:=h3 i hi;exact ⟨ad,b,u,t,l,m,e2,(hb.cell (bQ0 w _ c0)).trans c0,(hb.cell (bQ0 w _ c1)).trans c1,(hb.cell (bQ0 w _ c2)).trans c2,k1.bQ hb,k2,k3.bQ hb,k4⟩
def vi (l:List Int):List Value:=l.map (.int .i64)
theorem vi_len (l:List Int):(vi l).length=l.length:=zA9 _
section
variable {P:Program}
end
theorem info_int:∃ i,prog.info? 3=some i/\i.zero=some (.int .i64 0)/\i.size=1/\i.bytes=8:=info_parts (P:=prog) (e:=3) (z:=.int .i64 0) (size:=1) (bytes:=8) (by kernel_rfl)
end rat
namespace rat
open Go.RowKit num mem nat txt str flow whl
def zL4 (B:Nat) (ps:List Elt):Prop:=∀ p∈ps,zE5 B p.2.1/\zE5 B p.2.2
theorem zL4.nil (B:Nat):zL4 B []:=fun p hp=>by cases hp
theorem zL4.snoc {B:Nat} {ps:List Elt} {p:Elt} (h:zL4 B ps) (h1:zE5 B p.2.1) (h2:zE5 B p.2.2):zL4 B (ps ++ [p]):=fun a ha=>by
 rcases List.mem_append.1 ha with ha | ha
 ·exact h a ha
 ·rw [List.mem_singleton.1 ha];exact ⟨h1,h2⟩
def SlT (k:IntKind) (B:Nat) (w:World) (v:Value) (t:List (List Rat)):Prop:=∃ us:List Value,us.length=t.length/\(∃ A c,v=.slice A us.length c/\us.length<=c/\c<=maxLen /\ ∀ (i:Nat) (u:Value),us[i]?=some u -> ∃ ad,A=some ad/\w.cell? (ad.add i)=some u) /\ ∀ (i:Nat) (u:Value) (r:List Rat),us[i]?=some u->t[i]?=some r->SlF k B w u r
theorem SlT.bQ {k:IntKind} {B:Nat} {w w':World} {v:Value} {t:List (List Rat)} (h:SlT k B w v t) (hb:Below w.heap.size w w'):SlT k B w' v t:=by
 obtain ⟨us,h1,⟨A,c,e,h2,h3,h4⟩,h5⟩:=h;refine ⟨us,h1,⟨A,c,e,h2,h3,fun i u hu => ?_⟩,fun i u r hu hr=>(h5 i u r hu hr).bQ hb⟩;obtain ⟨ad,ha,hc⟩:=h4 i u hu;exact ⟨ad,ha,(hb.cell (bQ0 w _ hc)).trans hc⟩
theorem SlT.shape {k:IntKind} {B:Nat} {w:World} {v:Value} {t:List (List Rat)} (h:SlT k B w v t):∃ A c,v=.slice A t.length c/\t.length<=c/\c<=maxLen:=by
 obtain ⟨us,h1,⟨A,c,e,h2,h3,_⟩,_⟩:=h;exact ⟨A,c,by rw [e,h1],by omega,h3⟩
theorem SlT.at_ {k:IntKind} {B:Nat} {w:World} {A:Option Addr} {n c i:Nat} {t:List (List Rat)} {r:List Rat} (h:SlT k B w (.slice A n c) t) (hr:t[i]?=some r):∃ ad Ar cr,A=some ad/\i<n/\w.cell? (ad.add i)=some (.slice Ar r.length cr)/\SlF k B w (.slice Ar r.length cr) r:=by
 obtain ⟨us,h1,⟨A',c',e,h2,h3,h4⟩,h5⟩:=h;injection e with e1 e2 e3;subst e1;subst e2;subst e3;have hi:i<us.length:=by have:=(zA4.1 hr).1;omega
 obtain ⟨ad,ha,hc⟩:=h4 i _ (zA3 hi);have hs:=h5 i _ r (zA3 hi) hr;obtain ⟨Ar,cr,e,_,_⟩:=hs.shape;rw [e] at hc hs;exact ⟨ad,Ar,cr,ha,hi,hc,hs⟩
theorem slT_nil (k:IntKind) (B:Nat) (w:World):SlT k B w (.slice none 0 0) []:=⟨[],rfl,⟨none,0,rfl,by simp,by unfold maxLen;omega,fun i u hu=>by simp at hu⟩,fun i u r hu=>by simp at hu⟩
def yJ2 (k:IntKind) (B:Nat) (t:List (List Rat)) (w:World) (e:Ending) (w':World):Prop:=∃ V,e=.returned V/\SlT k B w' V t/\Below w.heap.size w w'
def zV1 (t:List (List Rat)) (n:Int) (w:World) (e:Ending) (w':World):Prop:=∃ V,e=.returned (.tuple #[V,.int .i64 n])/\SlT .u64 4294967296 w' V (if n=0 then t else [])/\Below w.heap.size w w'
end rat
namespace flow
open Go.RowKit num mem whl rat
section
variable {P:Program} {Q:Exit->Act->World->Prop} {ops:Array Oper} {L:List Oper} {Φ : List Pd} {w0:World} {a0:Act} {i:Nat} {o:Oper}
end
end flow
end Go.Proofs.YtbfflcpmagjlnaaGreat
