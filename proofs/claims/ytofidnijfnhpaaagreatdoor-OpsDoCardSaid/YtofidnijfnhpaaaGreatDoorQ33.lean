import Derived.Deep.Quiet
import Derived.Lib.QuietBelow
import Derived.Test.YtofidnijfnhpaaaGreatDoorQ01
import Derived.Test.YtofidnijfnhpaaaGreatDoorQ32
set_option linter.unusedSimpArgs false
set_option linter.unusedVariables false
set_option linter.unusedSectionVars false
set_option maxRecDepth 1000000
set_option maxHeartbeats 16000000
namespace Go.Proofs.YtofidnijfnhpaaaGreatDoor
open Go Go.RowKit
section
variable {P:Program} {ops:Array Oper} {md:Region.Mode} {C:World->Prop} {Q:Exit->Act->World->Prop} {r m:Nat}
def wpPre (P:Program) (md:Region.Mode) (ops:Array Oper) (C:World->Prop) (Q:Exit->Act->World->Prop) (r:Nat):Nat->Array Bool->Act->Prop
 |0,listed,a=>∀w,C w->wpAny P md ops Q r listed a w
 |fuel+1,listed,a=>Region.ready md ops listed≠[]/\∀i∈Region.ready md ops listed,qOp P ops C i (wpPre P md ops C Q r fuel (listed.setIfInBounds i true)) a
theorem any_of_pre:∀(o:Nat) (j:Array Bool) (a:Act) (w:World),C w->wpPre P md ops C Q r o j a->wpAny P md ops Q (o+r) j a w
 |0,j,a,w,hw,h=>by rw[Nat.zero_add];exact h w hw
 |o+1,j,a,w,hw,h=>by
  rw[show o+1+r=(o+r)+1 by omega]
  exact⟨fun h0=>absurd h0 h.1,fun i hi=>wpOp_of_qOp hw (fun a' w' hw'=>any_of_pre o _ a' w' hw') (h.2 i hi)⟩
def Closed (md:Region.Mode) (ops:Array Oper) (listed:Array Bool):Prop:=∀j o,ops[j]? =some o->listed.getD j false=true->∀e∈o.after,Region.binds md e=true->listed.getD e.on false=true
theorem unl_lt {o:Array Bool} {j:Nat} (h:o.getD j true=false):j<o.size:=by
 rcases Nat.lt_or_ge j o.size with q|q
 ·exact q
 ·simp[Array.getElem?_eq_none q] at h
theorem unl_iff {h:Array Bool} {j:Nat} (o:j<h.size):h.getD j false=h.getD j true:=by simp[o]
theorem Closed.set {q:Array Bool} {i:Nat} (h:Closed md ops q) (E:i∈Region.ready md ops q):Closed md ops (q.setIfInBounds i true):=by
 intro j o y B e he A
 obtain⟨F,I,D,z⟩:=mem_ready.1 E
 by_cases hij:i=j
 ·subst hij
  rw[D] at y
  cases y
  exact getD_set_true (z e he A)
 ·rw[getD_set_ne false hij] at B
  exact getD_set_true (h j o y B e he A)
def waits (md:Region.Mode) (ops:Array Oper) (t k:Nat):Bool:=match ops[t]? with
 |some o=>o.after.any fun e=>Region.binds md e&&e.on==k
 |none=>false
theorem waits_spec {t k:Nat} (h:waits md ops t k=true):∃o,ops[t]? =some o/\∃e∈o.after,Region.binds md e=true/\e.on=k:=by
 unfold waits at h
 cases ho:ops[t]? with
 |none=>rw[ho] at h;cases h
 |some o=>
  rw[ho] at h
  obtain⟨e,he,j⟩:=Array.any_eq_true'.1 h
  simp only[Bool.and_eq_true,beq_iff_eq] at j
  exact⟨o,rfl,e,he,j.1,j.2⟩
theorem waits_not {j:Array Bool} {t k:Nat} (I:Closed md ops j) (E:j.size=ops.size) (h:waits md ops t k=true) (B:j.getD k true=false):j.getD t true=false/\t∉Region.ready md ops j:=by
 obtain⟨o,y,e,he,A,rfl⟩:=waits_spec h
 have D:=unl_lt B
 have hk':j.getD e.on false=false:=by rw[unl_iff D];exact B
 have J:t<j.size:=by rw[E];exact(Array.getElem?_eq_some_iff.1 y).1
 constructor
 ·cases h1:j.getD t true with
  |false=>rfl
  |true=>
   have:=I t o y (by rw[unl_iff J];exact h1) e he A
   rw[hk'] at this
   cases this
 ·intro F
  obtain⟨-,K,q,z⟩:=mem_ready.1 F
  rw[y] at q
  cases q
  have:=z e he A
  rw[hk'] at this
  cases this
def tailB (md:Region.Mode) (ops:Array Oper) (m:Nat):Bool:=((List.range m).all fun k=>k==0||(List.range (m+1)).any fun t=>decide (k<t)&&waits md ops t k)&&(List.range ops.size).all fun t=>decide (t<=m)||waits md ops t (t-1)
theorem tail_not {h:Array Bool} (E:tailB md ops m=true) (J:Closed md ops h) (I:h.size=ops.size) (k:Nat) (q:k≠0) (z:k<m) (D:h.getD k true=false):∀t,m<=t->t∉Region.ready md ops h:=by
 simp only[tailB,Bool.and_eq_true,List.all_eq_true,List.mem_range,Bool.or_eq_true,beq_iff_eq,List.any_eq_true,decide_eq_true_eq] at E
 obtain⟨F,K⟩:=E
 have T:h.getD m true=false/\m∉Region.ready md ops h:=by
  have y:∀d k,m-k=d->k≠0->k<m->h.getD k true=false->h.getD m true=false/\m∉Region.ready md ops h:=by
   intro d
   induction d using Nat.strongRecOn with
   |ind d ih=>
    intro k V q z D
    obtain⟨t,B,U,M⟩:=(F k z).resolve_left q
    have A:=waits_not J I M D
    by_cases htm:t=m
    ·subst htm;exact A
    ·exact ih (m-t) (by omega) t rfl (by omega) (by omega) A.1
  exact y _ k rfl q z D
 intro t B
 have y:∀d t,t=m+d->t<ops.size->h.getD t true=false/\t∉Region.ready md ops h:=by
  intro d
  induction d with
  |zero=>intro t B _;subst B;exact T
  |succ d ih=>
   intro t B j
   have A:=ih (t-1) (by omega) (by omega)
   exact waits_not J I ((K t j).resolve_left (by omega)) A.1
 by_cases j:t<ops.size
 ·exact(y (t-m) t (by omega) j).2
 ·intro O
  obtain⟨-,o,N,-⟩:=mem_ready.1 O
  exact j (Array.getElem?_eq_some_iff.1 N).1
def cnt (m:Nat) (listed:Array Bool):Nat:=((List.range m).filter fun k=> !(listed.getD k true)).length
theorem cnt_succ (m:Nat) (j:Array Bool):cnt (m+1) j=cnt m j+if j.getD m true=false then 1 else 0:=by
 unfold cnt
 rw[List.range_succ,List.filter_append,List.length_append]
 by_cases h:j.getD m true=false
 ·rw[if_pos h,List.filter_cons_of_pos (by rw[h];rfl)];rfl
 ·have h':j.getD m true=true:=by cases e:j.getD m true with |true=>rfl|false=>exact absurd e h
  rw[if_neg h,List.filter_cons_of_neg (by rw[h'];decide)];rfl
theorem cnt_other (o:Array Bool) (j:Nat):∀m,m<=j->cnt m (o.setIfInBounds j true)=cnt m o
 |0,_=>rfl
 |m+1,h=>by rw[cnt_succ,cnt_succ,cnt_other o j m (by omega),getD_set_ne true (by omega)]
theorem cnt_set (o:Array Bool) (j:Nat) (q:o.getD j true=false):∀m,j<m->cnt m (o.setIfInBounds j true)+1=cnt m o
 |0,h=>absurd h (by omega)
 |m+1,h=>by
  have y:=unl_lt q
  rw[cnt_succ,cnt_succ]
  by_cases e:j=m
  ·subst e
   rw[cnt_other o j j (Nat.le_refl _),if_pos q]
   simp[y]
  ·rw[<-cnt_set o j q m (by omega),getD_set_ne true e]
   omega
theorem cnt_zero (j:Array Bool):∀m,cnt m j=0->∀k,k<m->j.getD k true=true
 |0,_,k,hk=>absurd hk (by omega)
 |m+1,h,k,hk=>by
  rw[cnt_succ] at h
  by_cases e:k=m
  ·subst e
   cases h1:j.getD k true with
   |true=>rfl
   |false=>rw[if_pos h1] at h;omega
  ·exact cnt_zero j m (by omega) k (by omega)
theorem cnt_one {o:Array Bool} {i j:Nat} (h:cnt m o=1) (A:i<m) (B:j<m) (y:o.getD i true=false) (z:o.getD j true=false):j=i:=by
 have D:=cnt_set o i y m A
 have q:=cnt_zero _ m (show cnt m (o.setIfInBounds i true)=0 by omega) j B
 by_cases e:i=j
 ·exact e.symm
 ·rw[getD_set_ne true e,z] at q;cases q
theorem pre_first {i:Nat} {N:Oper} {v:Value} (hi:ops[i]? =some N) (M:∀(j:Nat) (o:Oper) cs b,ops[j]? =some o->o.op≠.select cs b) (hT:tailB md ops m=true) (J:i<m):
 ∀(z:Nat) (q:Array Bool) (a:Act),Closed md ops q->q.size=ops.size->q.getD 0 true=true->cnt m q=z+1->
  (∀j E,ops[j]? =some E->j≠i->q.getD j true=false->(∀e∈E.after,Region.binds md e=true->e.on≠i)->N.apart ops E=true)->
  i∈Region.ready md ops q->YieldsIn P ops C N v a->
  wpPre P md ops C Q r z (q.setIfInBounds i true) (a.put N.dst v)->wpPre P md ops C Q r (z+1) q a:=by
 intro z
 induction z with
 |zero=>
  intro q a Z V I hn B D T H
  refine⟨fun h=>(by rw[h] at D;cases D),fun j hj=>?_⟩
  have y:=(mem_ready.1 D).1
  have O:i≠0:=fun e=>by subst e;rw[I] at y;cases y
  have K:j<m:=by
   rcases Nat.lt_or_ge j m with h|h
   ·exact h
   ·exact absurd hj (tail_not hT Z V i O J y j h)
  obtain rfl:j=i:=cnt_one hn J K y (mem_ready.1 hj).1
  exact T.qOp hi H
 |succ z ih=>
  intro q a Z V I hn B D T H
  refine⟨fun h=>(by rw[h] at D;cases D),fun j hj=>?_⟩
  have y:=(mem_ready.1 D).1
  have O:i≠0:=fun e=>by subst e;rw[I] at y;cases y
  have K:j<m:=by
   rcases Nat.lt_or_ge j m with h|h
   ·exact h
   ·exact absurd hj (tail_not hT Z V i O J y j h)
  by_cases hji:j=i
  ·subst hji;exact T.qOp hi H
  ·have h1:=H.2 j (ready_mono hj hji)
   obtain⟨A,E,F,ab⟩:=mem_ready.1 hj
   have ad:∀e∈E.after,Region.binds md e=true->e.on≠i:=fun e he hb heq=>by
    have U:=ab e he hb
    rw[heq,unl_iff (unl_lt y),y] at U
    cases U
   have U:=qOp_put F (B j E F hji A ad) (fun cs b=>M i N cs b hi) (fun cs b=>M j E cs b F) T h1
   have af:j≠0:=fun e=>by subst e;rw[I] at A;cases A
   refine qOp_mono (fun a' h3=>ih (q.setIfInBounds j true) a' (Z.set hj) (by simpa using V) (by rw[getD_set_ne true af];exact I) ?_ ?_ (ready_mono D (Ne.symm hji)) h3.1 ?_) U
   ·have:=cnt_set q j A m K;omega
   ·intro k ok hk ah aa ai
    refine B k ok hk ah ?_ ai
    by_cases hjk:j=k
    ·subst hjk;exact A
    ·rw[getD_set_ne true hjk] at aa;exact aa
   ·rw[Array.setIfInBounds_comm _ _ hji]
    exact h3.2
def preFrom (md:Region.Mode) (ops:Array Oper):Nat->Nat->Array Bool->Bool
 |0,_,_=>true
 |fuel+1,k,listed=>(Region.ready md ops listed).contains k&&Region.free md ops listed k&&preFrom md ops fuel (k+1) (listed.setIfInBounds k true)
def after (listed:Array Bool):Nat->Nat->Array Bool
 |0,_=>listed
 |n+1,k=>after (listed.setIfInBounds k true) n (k+1)
theorem pre_lex {L:Array Bool} (D:Region.noSelect ops=true) (I:tailB md ops m=true):∀(l:List Oper) (k:Nat) (q:Array Bool) (a:Act),(∀j,j<l.length->l[j]? =ops[k+j]?)->k+l.length=m->
 Closed md ops q->q.size=ops.size->q.getD 0 true=true->cnt m q=l.length->after q l.length k=L->preFrom md ops l.length k q=true->
 wpQuiet P ops C (fun a'=>∀w,C w->wpAny P md ops Q r L a' w) l a->wpPre P md ops C Q r l.length q a
 |[],_,q,a,_,_,_,_,_,_,B,_,h=>by
  have hL':q=L:=B
  subst hL'
  exact h
 |o::l,k,q,a,hl,hm,hc,hsz,h0,hn,B,hB,h=>by
  have y:ops[k]? =some o:=by simpa using (hl 0 (by simp)).symm
  simp only[List.length_cons,preFrom,Bool.and_eq_true] at hB
  obtain⟨⟨O,K⟩,E⟩:=hB
  have hr':k∈Region.ready md ops q:=by simpa using O
  have z:=(mem_ready.1 hr').1
  have J:k≠0:=fun e=>by subst e;rw[h0] at z;cases z
  have F:qOp P ops C k (wpQuiet P ops C (fun a'=>∀w,C w->wpAny P md ops Q r L a' w) l) a:=by unfold qOp;simp only[y];exact h
  obtain⟨v,N,M⟩:=yieldsIn_of_qOp y F
  have A:k<m:=by simp at hm;omega
  have T:=cnt_set q k z m A
  refine pre_first y (Region.noSelect_spec D) I A l.length q a hc hsz h0 (by simpa using hn) (Region.free_spec y K) hr' N ?_
  exact pre_lex D I l (k+1) _ _ (fun j hj=>by have:=hl (j+1) (by simp;omega);simpa [Nat.add_assoc,Nat.add_comm 1 j] using this) (by simp at hm;omega) (hc.set hr') (by simpa using hsz) (by rw[getD_set_ne true J];exact h0) (by simp at hn;omega) B E M
def tailFrom (md:Region.Mode) (ops:Array Oper):Nat->Nat->Array Bool->Bool
 |0,_,listed=>(Region.ready md ops listed).isEmpty
 |fuel+1,k,listed=>decide (Region.ready md ops listed=[k])&&tailFrom md ops fuel (k+1) (listed.setIfInBounds k true)
theorem any_tail:∀(l:List Oper) (k:Nat) (q:Array Bool) (a:Act) (w:World),(∀j,j<l.length->l[j]? =ops[k+j]?)->tailFrom md ops l.length k q=true->wpList P ops Q l a w->wpAny P md ops Q l.length q a w
 |[],_,q,a,w,_,hB,h=>⟨by simpa [tailFrom] using hB,h⟩
 |o::l,k,q,a,w,hl,hB,h=>by
  have y:ops[k]? =some o:=by simpa using (hl 0 (by simp)).symm
  simp only[List.length_cons,tailFrom,Bool.and_eq_true,decide_eq_true_eq] at hB
  obtain⟨A,z⟩:=hB
  refine wpAny_all A (by simp) fun i hi=>?_
  have:i=k:=by simpa using hi
  subst this
  have h':wpOp P ops Q i (wpList P ops Q l) a w:=by unfold wpOp;simp only[y];exact h
  exact wpOp_mono (fun a' w' hh=>any_tail l (i+1) _ a' w' (fun j hj=>by have:=hl (j+1) (by simp;omega);simpa [Nat.add_assoc,Nat.add_comm 1 j] using this) z hh) h'
theorem wpQuiet_mono2 {K q:Act->Prop} (h:∀a,K a->q a):∀(l:List Oper) (a:Act),wpQuiet P ops C K l a->wpQuiet P ops C q l a
 |[],a,hh=>h a hh
 |o::l,a,hh=>by
  simp only[wpQuiet] at hh⊢
  split
  ·rename_i j
   rw[if_pos j] at hh
   exact Oper.quiet_mono (fun a' ha'=>wpQuiet_mono2 h l a' ha') hh
  ·rename_i j
   rw[if_neg j] at hh
   exact wpQuiet_mono2 h l _ hh
def tailOK (l:List Oper) (m:Nat):Bool:=
 Region.noSelect l.toArray&&(Region.ready .any l.toArray (Array.replicate l.length false)).contains 0&&Region.free .any l.toArray (Array.replicate l.length false) 0&&tailB .any l.toArray (m+1)&&
  preFrom .any l.toArray m 1 ((Array.replicate l.length false).setIfInBounds 0 true)&&tailFrom .any l.toArray (l.length-(m+1)) (m+1) (after ((Array.replicate l.length false).setIfInBounds 0 true) m 1)&&decide (m+1<=l.length)&&decide (cnt (m+1) ((Array.replicate l.length false).setIfInBounds 0 true)=m)
theorem wp_region_tail {V:Nat} {a:Act} {w:World} {l:List Oper} {z:Oper} {A:Value} (m:Nat) (hm:P.follows .mixedOrders=true) (K:tailOK l m=true) (h0:l[0]? =some z) (T:Yields P l.toArray z A a) (Z:∀c a w,Q (.panic c) (a.put z.dst A) w->Q (.panic c) a w)
 (h:wpQuiet P l.toArray (fun w'=>∃p:Regrown,w'=Sort.grow (redrawn w p.d) p.os) (fun a'=>∀w',(∃p:Regrown,w'=Sort.grow (redrawn w p.d) p.os)->wpList P l.toArray Q (l.drop (m+1)) a' w') ((l.drop 1).take m) (a.put z.dst A)):(Code.region V l.toArray true).wp P Q a w:=by
 simp only[tailOK,Bool.and_eq_true,decide_eq_true_eq] at K
 obtain⟨⟨⟨⟨⟨⟨⟨b1,b2⟩,b3⟩,O⟩,I⟩,N⟩,U⟩,J⟩:=K
 have hsz:l.toArray.size=l.length:=by simp
 refine wp_region_any hm ?_
 rw[hsz]
 obtain⟨n,B⟩:∃n,l.length=n+1:=⟨l.length-1,by omega⟩
 rw[B] at b2 b3 I N U J⊢
 have M:l.toArray[0]? =some z:=by simpa using h0
 refine wpAny_take M b1 b3 b2 Z T ?_
 have hw:∃p:Regrown,({w with drawn:=w.drawn+1}:World)=Sort.grow (redrawn w p.d) p.os:=⟨⟨w.drawn+1,#[]⟩,by rw[Go.Sort.grow_empty];rfl⟩
 have q:((l.drop 1).take m).length=m:=by rw[List.length_take,List.length_drop,B];omega
 have F:(0:Nat)∈Region.ready .any l.toArray (Array.replicate (n+1) false):=by simpa using b2
 have E:Closed .any l.toArray (Array.replicate (n+1) false):=by
  intro j o ho y
  simp only[Array.getD_eq_getD_getElem?,Array.getElem?_replicate] at y
  split at y<;>cases y
 obtain⟨r,hr⟩:∃r,n=m+r:=⟨n-m,by omega⟩
 rw[show wpAny P .any l.toArray Q n=wpAny P .any l.toArray Q (m+r) by rw[hr]]
 refine any_of_pre (C:=fun w'=>∃p:Regrown,w'=Sort.grow (redrawn w p.d) p.os) m _ _ _ hw ?_
 have:=pre_lex (P:=P) (md:=.any) (ops:=l.toArray) (m:=m+1) (Q:=Q) (r:=r) (C:=fun w'=>∃p:Regrown,w'=Sort.grow (redrawn w p.d) p.os) (L:=after ((Array.replicate (n+1) false).setIfInBounds 0 true) m 1) b1 O ((l.drop 1).take m) 1 ((Array.replicate (n+1) false).setIfInBounds 0 true) (a.put z.dst A) (fun j y=>by
  rw[q] at y
  rw[List.getElem?_take_of_lt y,List.getElem?_drop]
  simp) (by rw[q];omega) (E.set F) (by simp[B]) (by simp) (by rw[q];exact J) (by rw[q]) (by rw[q];exact I) ?_
 ·rw[q] at this
  exact this
 ·refine wpQuiet_mono2 (fun a' ha' w' hw'=>?_) _ _ h
  have D:(l.drop (m+1)).length=r:=by rw[List.length_drop,B];omega
  have:=any_tail (P:=P) (md:=.any) (ops:=l.toArray) (Q:=Q) (l.drop (m+1)) (m+1) (after ((Array.replicate (n+1) false).setIfInBounds 0 true) m 1) a' w' (fun j y=>by rw[List.getElem?_drop];simp) (by rw[D];have:=N;rw[show n+1-(m+1)=r by omega] at this;exact this) (ha' w' hw')
  rw[D] at this
  exact this
end
end Go.Proofs.YtofidnijfnhpaaaGreatDoor
namespace Go.Proofs.YtofidnijfnhpaaaGreatDoor
open Go.RowKit
def QlE:Value->Nat
 |.slice _ n _=>n
 |_=>0
theorem QgN {w:World} {B:Nat} {v u:Value} {k:Nat} {T:TypeId} (h:w.ownsRow B T 1 v k (List.replicate k u)) (E:1<=k):∃g c,v=.slice (some ⟨g,0,none⟩) k c/\B<=g/\g<w.heap.size/\∀i,i<k->w.cell? ⟨g,i,none⟩=some u:=by
 have o:=fun q hq=>h.lt q hq
 have z:=h
 obtain⟨-,⟨-,D⟩|⟨g,j,A,rfl,y,-⟩⟩:=h
 ·omega
 ·refine⟨g,j,rfl,y,(o g rfl).2,fun i hi=>?_⟩
  have:=z.cellAt i (by omega)
  simpa [hi] using this
theorem QjJ (w:World) (e:TypeId) (v:Value) (B H:Nat) (h:w.heap.size=H) (j:B<=H):(w.alloc (.cells #[v] e)).ownsRow B e 1 (.slice (some ⟨H,0,none⟩) 1 1) 1 [v]:=by
 subst h
 exact⟨by simp,Or.inr ⟨w.heap.size,1,#[v],rfl,j,by show(w.heap.push _)[w.heap.size]? =_;simp,Nat.le_refl _,by unfold maxLen;omega,by simp,by simp⟩⟩
theorem QaD (t u v:Bool) (k:Int) (j:Qcm [t,u,v]=k) (W:World) (H:Nat) (c0:W.cell? ⟨H,0,none⟩=some (.bool t)) (c1:W.cell? ⟨H,1,none⟩=some (.bool u)) (c2:W.cell? ⟨H,2,none⟩=some (.bool v)):Calls Tryz.prog 20 #[.slice (some ⟨H,0,none⟩) 3 3] W fun e w'=>e=.returned (.int .i64 k)/\w'=W:=j▸Qhv H 0 3 3 [t,u,v] _ rfl (by decide) (by
 intro i h
 have:i=0\/i=1\/i=2:=by simp at h;omega
 rcases this with rfl|rfl|rfl
 ·exact c0
 ·exact c1
 ·exact c2)
theorem Qa9 (t u v x:Bool) (k:Int) (j:Qcm [t,u,v,x]=k) (W:World) (H:Nat) (c0:W.cell? ⟨H,0,none⟩=some (.bool t)) (c1:W.cell? ⟨H,1,none⟩=some (.bool u)) (c2:W.cell? ⟨H,2,none⟩=some (.bool v)) (c3:W.cell? ⟨H,3,none⟩=some (.bool x)):Calls Tryz.prog 20 #[.slice (some ⟨H,0,none⟩) 4 4] W fun e w'=>e=.returned (.int .i64 k)/\w'=W:=j▸Qhv H 0 4 4 [t,u,v,x] _ rfl (by decide) (by
 intro i h
 have:i=0\/i=1\/i=2\/i=3:=by simp at h;omega
 rcases this with rfl|rfl|rfl|rfl
 ·exact c0
 ·exact c1
 ·exact c2
 ·exact c3)
theorem QlF (s:List UInt8):decide (s∈[[61],[60,62],[60],[60,61],[62],[62,61]])=inS Qa3 s:=by
 rw[Bool.eq_iff_iff]
 simp only[decide_eq_true_eq,inS,Qa3,List.any_cons,List.any_nil,Bool.or_false,Bool.or_eq_true,beq_iff_eq,List.mem_cons,List.not_mem_nil,or_false]
 constructor
 ·rintro(rfl|rfl|rfl|rfl|rfl|rfl)<;>simp
 ·rintro(h|h|h|h|h|h)<;>simp[<-h]
theorem Qfo (s:ByteArray) (w:World) (h:Env w) (j:s.size<=1000000):Calls Tryz.prog 21 #[.string s,.string ⟨#[61,32,60,62,32,60,32,60,61,32,62,32,62,61]⟩] w fun e w'=>e=.returned (.bool (inS Qa3 s.data.toList))/\w'=w:=by
 rw[<-QlF]
 exact Qcs _ _ (by decide) (by decide) (by decide) s w h j
def Qdy (no k:Int):Prop:=(no=1/\k=0)\/(no=7/\k=1)\/(no=13/\k=2)\/(no=0/\k= -1)
end Go.Proofs.YtofidnijfnhpaaaGreatDoor
