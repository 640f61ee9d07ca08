import Derived.Deep.Cut
import Derived.Deep.DeepCutAuto
import Derived.Deep.RegionHeld3
import Derived.Test.YtofidnijfnhpaaaGreatDoorQ01
import Derived.Test.YtofidnijfnhpaaaGreatDoorQ30
import Derived.Test.YtofidnijfnhpaaaGreatDoorQ16
set_option linter.unusedSimpArgs false
set_option linter.unusedVariables false
set_option linter.unusedSectionVars false
set_option maxRecDepth 1000000
set_option maxHeartbeats 16000000
namespace Go.Proofs.YtofidnijfnhpaaaGreatDoor
open Go.RowKit
theorem Qfm:∀(q p:List Cl),Qca p q=true->∀k (o:k<q.length),Qak (p++q) q[k].1.data.toList=some (p.length+k)
 |[],_,_,k,o=>absurd o (by simp)
 |c::q,p,h,k,o=>by
  have h':=h
  simp only[Qca,Bool.and_eq_true] at h
  cases k with
  |zero=>
   have y:=h.2.2.1
   simp only[Qbw,Bool.not_eq_true',List.any_eq_false] at y
   refine Qdd (by simp) (by simp) fun j z=>?_
   have hj':j<p.length:=by simpa using z
   rw[List.getElem_append_left hj']
   have:=y p[j] (List.getElem_mem hj')
   simpa using this
  |succ k=>
   have:=Qfm q (p++[c]) h.2.2.2 k (by simpa using o)
   simp only[List.append_assoc,List.singleton_append,List.length_append,List.length_cons,List.length_nil] at this
   simp only[List.getElem_cons_succ]
   rw[this]
   congr 1
   omega
theorem QeN (l:List Cl) (o:List UInt8):Qak l o=none↔o∉Qbg l:=by
 unfold Qak
 rw[List.findIdx?_eq_none_iff]
 unfold Qbg
 simp only[List.mem_map,not_exists,not_and]
 constructor
 ·intro h x j e
  have:=h x j
  simp[e] at this
 ·intro h x j
  simpa using h x j
theorem Qh7 {l:List Cl} {i:Nat} (j:i<l.length):∃p,Qak l l[i].1.data.toList=some p/\p<=i:=by
 cases e:Qak l l[i].1.data.toList with
 |none=>exact absurd (show l[i].1.data.toList∈Qbg l from List.mem_map.2 ⟨_,List.getElem_mem j,rfl⟩) ((QeN _ _).1 e)
 |some p=>
  refine⟨p,rfl,?_⟩
  unfold Qak at e
  rw[List.findIdx?_eq_some_iff_getElem] at e
  obtain⟨q,y,o⟩:=e
  rcases Nat.lt_or_ge i p with h|h
  ·have:=o i h;simp at this
  ·exact h
theorem Qdi (l:List Cl):QcH l=false↔(Qbg l).Nodup:=by
 constructor
 ·intro h
  rw[List.nodup_iff_pairwise_ne]
  unfold Qbg
  rw[List.pairwise_map,List.pairwise_iff_getElem]
  intro i k o z B e
  obtain⟨p,j,y⟩:=Qh7 o
  have:=Qh0 z (by rw[Qaq,<-e,j];show(p:Int)<_;omega)
  rw[h] at this
  cases this
 ·intro h
  refine QeD fun i o q=>?_
  obtain⟨p,j,y⟩:=Qh7 o
  rw[Qaq,j] at q
  have hlt':p<i:=by have:(p:Int)<(i:Int):=q;omega
  have A:=Qis j
  rw[List.nodup_iff_pairwise_ne] at h
  unfold Qbg at h
  rw[List.pairwise_map,List.pairwise_iff_getElem] at h
  exact h p i (Qaj j) o hlt' A
theorem Qhs {cs:List Cl} (h:Qah cs=true):(Qbg cs).Nodup:=by
 rw[<-Qdi]
 refine QeD fun i hi hlt=>?_
 have:=Qfm cs [] (by simp only[Qah,Bool.and_eq_true] at h;exact h.2.2) i hi
 rw[List.nil_append] at this
 rw[Qaq,this] at hlt
 simp at hlt
def QbT (ds:List Cl) (q k:Nat):List Cl:=(ds.take k).take q++(ds.take k).drop (q+1)
theorem Qlj (h:List Cl) (q:Nat):QbT h q 0=[]:=by simp[QbT]
theorem Qh8 (cs h:List Cl) (q:Nat):cs++QbT h q h.length=Qb0 cs h q:=by simp[QbT,Qb0]
theorem QjF (j:List Cl) (q:Nat) (h:q<j.length):QbT j q (q+1)=QbT j q q:=by
 unfold QbT
 rw[List.take_take,List.take_take,show min q (q+1)=q by omega,show min q q=q by omega,List.drop_eq_nil_of_le (by rw[List.length_take];omega),List.drop_eq_nil_of_le (by rw[List.length_take];omega)]
theorem Qdx (j:List Cl) (q k:Nat) (h:k<j.length) (z:k≠q):QbT j q (k+1)=QbT j q k++[j[k]]:=by
 unfold QbT
 rw[List.take_succ_eq_append_getElem h]
 have o:(j.take k).length=k:=by rw[List.length_take];omega
 rcases Nat.lt_or_ge k q with y|y
 ·rw[List.drop_eq_nil_of_le (by rw[List.length_append,o];simp;omega),List.drop_eq_nil_of_le (by rw[o];omega),List.take_of_length_le (by rw[List.length_append,o];simp;omega),List.take_of_length_le (l:=j.take k) (by rw[o];omega)]
  simp
 ·rw[List.take_append_of_le_length (by rw[o];exact y),List.drop_append_of_le_length (by rw[o];omega),List.append_assoc]
theorem Qh9 (j:List Cl) (q:Nat):∀d k,k+d<=j.length->∃t,QbT j q (k+d)=QbT j q k++t
 |0,k,_=>⟨[],by simp⟩
 |d+1,k,h=>by
  obtain⟨t,o⟩:=Qh9 j q d k (by omega)
  rw[show k+(d+1)=(k+d)+1 by omega]
  by_cases e:k+d=q
  ·rw[e,QjF j q (by omega)];rw[e] at o;exact⟨t,o⟩
  ·rw[Qdx j q (k+d) (by omega) e,o]
   exact⟨t++[j[k+d]],by simp⟩
theorem QgM (cs j:List Cl) (q k:Nat) (h:k<=j.length):∃t,Qb0 cs j q=(cs++QbT j q k)++t:=by
 obtain⟨t,o⟩:=Qh9 j q (j.length-k) k (by omega)
 rw[show k+(j.length-k)=j.length by omega] at o
 exact⟨t,by rw[<-Qh8,o,List.append_assoc]⟩
theorem QeO (a b:List Cl):Qbg (a++b)=Qbg a++Qbg b:=by simp[Qbg]
theorem Qht {cs j:List Cl} {q k:Nat} (h:k<j.length) (o:k≠q) (y:Qak (cs++QbT j q k) j[k].1.data.toList≠none):QcH (Qb0 cs j q)=true:=by
 cases e:QcH (Qb0 cs j q) with
 |true=>rfl
 |false=>
  exfalso
  rw[Qdi] at e
  obtain⟨t,A⟩:=QgM cs j q (k+1) (by omega)
  rw[A,Qdx j q k h o,<-List.append_assoc,QeO,QeO] at e
  have z:=(List.nodup_append.1 (List.nodup_append.1 e).1).2.2
  refine y ((QeN _ _).2 fun hm=>?_)
  exact z _ hm _ (by simp[Qbg]) rfl
theorem QiK {cs j:List Cl} {q k:Nat} (h:k<j.length) (o:k≠q) (z:(Qbg (cs++QbT j q k)).Nodup) (y:Qak (cs++QbT j q k) j[k].1.data.toList=none):(Qbg (cs++QbT j q (k+1))).Nodup:=by
 rw[Qdx j q k h o,<-List.append_assoc,QeO]
 refine List.nodup_append.2 ⟨z,by simp[Qbg],fun a ha b hb e=>?_⟩
 simp[Qbg] at hb
 subst hb
 subst e
 exact(QeN _ _).1 y ha
theorem QcY (w:World) (e:TypeId) (z B H:Nat) (h:w.heap.size=H) (j:B<=H):(w.alloc (.cells #[] e)).ownsRow B e z (.slice (some ⟨H,0,none⟩) 0 0) 0 []:=by
 subst h
 exact QcN w e z B j
theorem Qfn {cs j:List Cl} {q k:Nat} (y:∀x∈cs,x.1.size<=maxLen) (o:∀x∈j,x.1.size<=maxLen):∀x∈cs++QbT j q k,x.1.size<=maxLen:=by
 intro x h
 rcases List.mem_append.1 h with h|h
 ·exact y x h
 ·unfold QbT at h
  rcases List.mem_append.1 h with h|h
  ·exact o x (List.mem_of_mem_take (List.mem_of_mem_take h))
  ·exact o x (List.mem_of_mem_take (List.mem_of_mem_drop h))
theorem Qhu (v y:Value) (ss:List ByteArray) (j:Jb) (w:World) (h:QaX w j.cols ss) (q:ss.length≠2):
 Calls Tryz.prog 25 #[.agg j.cells,v,y] w fun e w'=>QcF e w' w.heap.size 1 []/\Below w.heap.size w w':=by
 obtain⟨B,A,o,-,z,-⟩:=h
 have hl':((ss.length:Int) != 2)=true:=by simp;omega
 generalize ss.length=m at*
 unfold Jb.cells
 rw[o]
 clear q
 go_enter Tryz.func25,Tryz.ntmps25
 go_wp2
 go_ret2
 exact⟨Or.inl ⟨by decide,rfl⟩,Qab _ _⟩
theorem QiL (b o n c b2 o2 U c2 cb co cc:Nat) (cs A:List Cl) (x y:ByteArray) (j:Jb) (w:World) (hj:j.cols=.slice (some ⟨cb,co,none⟩) 2 cc) (aW:cb<w.heap.size) (s0:w.cell? ⟨cb,co,none⟩=some (.string x)) (s1:w.cell? ⟨cb,co+1,none⟩=some (.string y))
 (hn:cs.length=n) (bL:n<=40) (hb:b<w.heap.size) (hc:Qas w b o cs) (al:A.length=U) (bE:U<=40) (ag:b2<w.heap.size) (aB:Qas w b2 o2 A) (aO:∀z∈cs,z.1.size<=maxLen) (aL:∀z∈A,z.1.size<=maxLen) (aY:Qah cs=true):
 Calls Tryz.prog 25 #[.agg j.cells,.slice (some ⟨b,o,none⟩) n c,.slice (some ⟨b2,o2,none⟩) U c2] w fun e w'=>QcF e w' w.heap.size (QaQ cs A x y) (Qb0 cs A (pOf A y))/\Below w.heap.size w w':=by
 obtain⟨i0,hi,aX,aN,aP⟩:=info_parts Tryz.infoCol
 have aJ:∀(v:Value) (nm:ByteArray) (k:Int) (W:World),Below w.heap.size w W->(v=.slice (some ⟨b,o,none⟩) n c/\k=Qaq cs nm.data.toList\/v=.slice (some ⟨b2,o2,none⟩) U c2/\k=Qaq A nm.data.toList)->Calls Tryz.prog 19 #[v,.string nm] W fun e w'=>e=.returned (.int .i64 k)/\Below W.heap.size W w':=by
  rintro v nm k W h1 (⟨rfl,rfl⟩|⟨rfl,rfl⟩)
  ·exact Qdw b o n c cs nm W hn (by omega) (by have:=h1.size;omega) (hc.below h1 hb)
  ·exact Qdw b2 o2 U c2 A nm W al (by omega) (by have:=h1.size;omega) (aB.below h1 ag)
 have hJ:=Qbd w j 28
 have ac:=Qab w (.cells j.cells 28)
 obtain⟨W,hW⟩:∃W,W=w.alloc (.cells j.cells 28):=⟨_,rfl⟩
 have bM:W.heap.size=w.heap.size+1:=by rw[hW];simp
 rw[<-hW] at hJ ac
 have e4:=cell_regrown (show W.cell? ⟨w.heap.size,4,none⟩=some (.slice (some ⟨cb,co,none⟩) 2 cc) from by have:=hJ 4 j.cols rfl;rw[hj] at this;exact this)
 have e5:=cell_regrown (cK ac aW s0)
 have e6:=cell_regrown (cK ac aW s1)
 have C1:=fun v nm k d os h=>Calls.regrown_of (aJ v nm k (Sort.grow (redrawn W d) os) (Qaa ac (below_regrown _ _ _)) h)
 have HB:=Hk ac
 have D:=Hk (Ai hn (Ai hc (Ai al (Ai aB (Ai aO (Ai aL aY))))))
 obtain⟨P,ao⟩:∃P,Qaq cs x.data.toList=P:=⟨_,rfl⟩
 obtain⟨Q,au⟩:∃Q,Qaq A y.data.toList=Q:=⟨_,rfl⟩
 have K:=Hk (Ai ao au)
 clear hJ ac hn hc aJ al aB aO aL aY
 unfold Jb.cells at hW⊢
 rw[hj] at hW⊢
 go_enter Tryz.func25,Tryz.ntmps25
 go_wp2
 rw[<-hW]
 clear hW
 refine wp_region_quiet_below (by kernel_rfl) (by kernel_rfl) ?_
 repeat(any_goals(first|go_big_quiet_step (exact C1 _ _ _ _ _ (by first|exact Or.inl ⟨rfl,rfl⟩|exact Or.inr ⟨rfl,rfl⟩))|quiet_step (exact C1 _ _ _ _ _ (by first|exact Or.inl ⟨rfl,rfl⟩|exact Or.inr ⟨rfl,rfl⟩))))
 refine wpQuiet_nil ?_
 intro _ be
 obtain⟨⟨dq,ah⟩,a5⟩:=be
 subst a5
 have M:=Hk (Qaa HB.out (below_regrown W dq ah))
 have ba:w.heap.size+1<=(Sort.grow (redrawn W dq) ah).heap.size:=by have:=(below_regrown W dq ah).size;omega
 clear e4 e5 e6 C1 HB
 generalize Sort.grow (redrawn W dq) ah=W5 at*
 try rw[ao]
 try rw[au]
 clear ao au
 cases hpx:Qak cs x.data.toList with
 |none=>
  have E:=Hk (show QaQ cs A x y=7 by unfold QaQ;rw[hpx])
  have aw:P= -1:=by rw[<-K.out.1];exact QaM hpx
  subst aw
  clear hpx K
  go_wp2
  go_ret2
  exact⟨Or.inl ⟨by rw[E.out];decide,by rw[E.out];rfl⟩,M.out⟩
 |some p=>
  have aw:P=(p:Int):=by rw[<-K.out.1];exact Qaw hpx
  subst aw
  have bH:(0:Int)<=(p:Int):=by omega
  cases hqy:Qak A y.data.toList with
  |none=>
   have E:=Hk (show QaQ cs A x y=7 by unfold QaQ;rw[hpx,hqy])
   have az:Q= -1:=by rw[<-K.out.2];exact QaM hqy
   subst az
   clear hpx hqy K
   go_wp2
   go_ret2
   exact⟨Or.inl ⟨by rw[E.out];decide,by rw[E.out];rfl⟩,M.out⟩
  |some q=>
   have az:Q=(q:Int):=by rw[<-K.out.2];exact Qaw hqy
   subst az
   have bI:(0:Int)<=(q:Int):=by omega
   have aR:=Qaj hpx
   have aM:=Qaj hqy
   have bi:=Hk (show pOf A y=q by unfold pOf;rw[hqy];rfl)
   have aq:=Hk (show QaQ cs A x y=if QbC cs p≠QbC A q then 13 else if QcH (Qb0 cs A q)=true then 9 else if 6<(Qb0 cs A q).length then 4 else 0 by unfold QaQ;rw[hpx,hqy])
   have d1:=(M.out.cell (p:=⟨b,o+p*2+1,none⟩) hb).trans (D.out.2.1 p aR).2
   have d2:=(M.out.cell (p:=⟨b2,o2+q*2+1,none⟩) ag).trans (D.out.2.2.2.1 q aM).2
   rw[Qcd aR] at d1
   rw[Qcd aM] at d2
   have bO:(p:Int)<(n:Int):=by have:=D.out.1;omega
   have bJ:(q:Int)<(U:Int):=by have:=D.out.2.2.1;omega
   have bv:b<W5.heap.size:=by omega
   have a8:b2<W5.heap.size:=by omega
   generalize QbC cs p=kx at*
   generalize QbC A q=ky at*
   clear hpx hqy K
   by_cases hk:kx=ky
   ·subst hk
    have ay:=Hk (show QaQ cs A x y=if QcH (Qb0 cs A q)=true then 9 else if 6<(Qb0 cs A q).length then 4 else 0 by rw[aq.out,if_neg (by simp)])
    clear aq
    go_wp2
    go_quiet (fail)
    have bo:w.heap.size+1<=(W5.drewN nq).heap.size:=ba
    have ax:Below w.heap.size w (W5.drewN nq):=below_drewN M.out _
    generalize W5.drewN nq=W6 at*
    have bq:=Hk ax
    have aU:=Hk (fun oo=>QcO (D.out.2.1.below (Qad ax oo) hb))
    have aV:=Hk (QcY W6 56 2 (w.heap.size+1) W6.heap.size rfl bo)
    clear d1 d2 M ax bv a8
    go_wp2_with (at_builtin;refine wpList_append_own _ rfl _ _ 33 rfl (w.heap.size+1) 56 i0 (.agg #[.string ⟨#[]⟩,.int .i64 0]) 2 24 Tryz.underlying33 hi aX aN aP rfl (by decide) _ _ _ rfl aV.out ⟨b,o,none⟩ n c (Qap cs) rfl ?c0 (aU.out _) (QbY cs) ?c3 ?c4 ?c5 ?_)
    case c0=>rw[QbK,D.out.1]
    case c3=>unfold maxLen;omega
    case c4=>omega
    case c5=>simp;omega
    intro v' w7 I B _
    have ar:Below w.heap.size w w7:=(Qad bq.out _).grown B (by simp;omega) (fun z hz=>by simp[Value.ownBlock] at hz;omega)
    have aK:=Hk (Ai I ar)
    have bf:w.heap.size+1<=w7.heap.size:=by have:=B.size;simp at this;omega
    clear I B ar aU aV
    go_wp2
    go_loopw [10,51] (fun l i wr=>∃k:Nat,k<=U/\i=.int .i64 k/\wr.ownsRow (w.heap.size+1) 56 2 l (cs++QbT A q k).length (Qap (cs++QbT A q k))/\(Qbg (cs++QbT A q k)).Nodup/\Below w.heap.size w wr/\w.heap.size+1<=wr.heap.size) (fun _ i _=>U-(intOf i).toNat)
    case atStart=>exact⟨0,Nat.zero_le _,rfl,by rw[Qlj,List.append_nil,D.out.1];exact aK.out.1,by rw[Qlj,List.append_nil];exact Qhs D.out.2.2.2.2.2.2,aK.out.2,bf⟩
    case round=>
     obtain⟨k,hk,rfl,F,O,T,bN⟩:=hrel
     obtain⟨N,hN⟩:∃N,(cs++QbT A q k).length=N:=⟨_,rfl⟩
     have bc:N<=100:=by
      rw[<-hN,List.length_append,QbT,List.length_append,List.length_take,List.length_drop,List.length_take]
      have h1:=D.out.1
      have h2:=D.out.2.2.1
      omega
     have HN:=Hk hN
     rw[hN] at F
     obtain⟨la,lc,rfl⟩:=Qae F
     have Z:=Hk (Ai F (Ai O T))
     clear hN
     by_cases hlt:k<U
     ·have ab:k<A.length:=by have:=D.out.2.2.1;omega
      have d1:=(T.cell (p:=⟨b2,o2+k*2,none⟩) ag).trans (D.out.2.2.2.1 k ab).1
      have d2:=(T.cell (p:=⟨b2,o2+k*2+1,none⟩) ag).trans (D.out.2.2.2.1 k ab).2
      by_cases hkq:k=q
      ·subst hkq
       have HS:=Hk (QjF A k ab)
       generalize A[k]=z at*
       clear F O T
       go_wp2
       go_roundw
       case rel=>exact⟨k+1,by omega,by go_num,by rw[HS.out,HN.out];exact Z.out.1.alloc _,by rw[HS.out];exact Z.out.2.1,Qad Z.out.2.2 _,by simp;omega⟩
       case measure=>simp[intOf];omega
      ·have br:((k:Int)==(q:Int))=false:=by simp;omega
       have aQ:=Hk (fun V (h:Below wr.heap.size wr V) nm=>QfO (.slice la N lc) (cs++QbT A q k) nm V (Qbx (by rw[HN.out];exact Qaf Z.out.1 h) (Qfn D.out.2.2.2.2.1 D.out.2.2.2.2.2.1)) (by rw[HN.out];exact bc))
       have aC:=Hk (Qht (cs:=cs) ab hkq)
       have aA:=Hk (QiK (cs:=cs) ab hkq O)
       have HS:=Hk (Qdx A q k ab hkq)
       generalize A[k]=z at*
       cases g:Qak (cs++QbT A q k) z.1.data.toList with
       |some p2=>
        have E:=Hk (show QaQ cs A x y=9 by rw[ay.out,if_pos (aC.out (by rw[g];simp))])
        have HA:=Hk (fun V h=>aQ.out V h z.1)
        rw[Qaw g] at HA
        have bK:(0:Int)<=(p2:Int):=by omega
        clear F O T g aC aA
        go_wp2_with (go_at_call 19;refine(HA.out _ (Qab _ _)).mono ?_;rintro e w8 ⟨rfl,J⟩)
        go_ret2
        exact⟨Or.inl ⟨by rw[E.out];decide,by rw[E.out];rfl⟩,Qaa (Qad Z.out.2.2 _) J⟩
       |none=>
        have HA:=Hk (fun V h=>aQ.out V h z.1)
        rw[QaM g] at HA
        have HM:=Hk (aA.out g)
        clear F O T g aC aA
        go_wp2_with (go_at_call 19;fail)
        refine(HA.out _ (Qab _ _)).mono ?_
        rintro e w8 ⟨rfl,J⟩
        have z0:w8.cell? ⟨wr.heap.size,0,none⟩=some (.string z.1):=(J.cell (p:=⟨wr.heap.size,0,none⟩) (by simp)).trans (by simp)
        have z1:w8.cell? ⟨wr.heap.size,1,none⟩=some (.int .i64 z.2):=(J.cell (p:=⟨wr.heap.size,1,none⟩) (by simp)).trans (by simp)
        have bl:=J.size
        simp at bl
        have aS:=Hk (Qaf (Z.out.1.alloc _) J)
        have bs:=Hk (Qaa (Qad Z.out.2.2 _) J)
        clear J
        go_wp2_with (at_builtin;refine wpList_append_own _ rfl _ _ 33 rfl (w.heap.size+1) 56 i0 (.agg #[.string ⟨#[]⟩,.int .i64 0]) 2 24 Tryz.underlying33 hi aX aN aP rfl (by decide) _ _ _ rfl (aS.out.alloc _) ⟨w8.heap.size,0,none⟩ 1 1 [.string z.1,.int .i64 z.2] rfl rfl (Qjg _ _ _ _ _ rfl) (QmE _ _) ?c3 ?c4 ?c5 ?_)
        case c3=>unfold maxLen;omega
        case c4=>omega
        case c5=>simp;omega
        intro v' w9 I B _
        have am:Below w.heap.size w w9:=(bs.out.alloc (by omega) _).grown B (by simp;omega) (fun q hq=>by have:=(aS.out.lt q hq).1;omega)
        have bm:=B.size
        simp at bm
        have HF:=Hk (Ai I am)
        clear I B am
        go_wp2
        go_roundw
        case rel=>exact⟨k+1,by omega,by go_num,by rw[HS.out,<-List.append_assoc,List.length_append,HN.out,QcR];exact HF.out.1,HM.out,HF.out.2,by omega⟩
        case measure=>simp[intOf];omega
     ·have bg:k=U:=by omega
      have ai:=Hk (show cs++QbT A q k=Qb0 cs A q by rw[bg,<-D.out.2.2.1,Qh8])
      have aT:=Hk (show QcH (Qb0 cs A q)=false by rw[Qdi,<-ai.out];exact O)
      clear F O T
      by_cases h6:6<N
      ·have E:=Hk (show QaQ cs A x y=4 by rw[ay.out,if_neg (by rw[aT.out];decide),<-ai.out,HN.out,if_pos h6])
       go_wp2
       go_ret2
       exact⟨Or.inl ⟨by rw[E.out];decide,by rw[E.out];rfl⟩,Z.out.2.2⟩
      ·have E:=Hk (show QaQ cs A x y=0 by rw[ay.out,if_neg (by rw[aT.out];decide),<-ai.out,HN.out,if_neg h6])
       have bh:=Hk (show Qav wr (.slice la N lc) (Qb0 cs A (pOf A y)) by
        rw[bi.out,<-ai.out]
        exact Qbx (by rw[HN.out];exact Z.out.1) (Qfn D.out.2.2.2.2.1 D.out.2.2.2.2.2.1))
       go_wp2
       go_ret2
       exact⟨Or.inr ⟨E.out,wr.heap.size,.slice la N lc,rfl,by omega,by simp,by simp,bh.out.below (Qab _ _)⟩,Qad Z.out.2.2 _⟩
   ·have br:(kx != ky)=true:=by simp[hk]
    have E:=Hk (show QaQ cs A x y=13 by rw[aq.out,if_pos hk])
    clear hk
    go_wp2
    go_quiet (fail)
    go_wp2
    go_ret2
    exact⟨Or.inl ⟨by rw[E.out];decide,by rw[E.out];rfl⟩,below_drewN M.out _⟩
def Qcm (l:List Bool):Int:=match l.findIdx? id with
 |some i=>(i:Int)
 |none=>-1
theorem QjG (o:List Bool) (k:Nat) (z:k<o.length) (q:∀j (h:j<o.length),j<k->o[j]=false) (y:o[k]=true):Qcm o=k:=by
 have:o.findIdx? id=some k:=List.findIdx?_eq_some_iff_getElem.2 ⟨z,y,fun j hj=>by simpa using q j (by omega) hj⟩
 unfold Qcm
 rw[this]
theorem QiM (o:List Bool) (q:∀j (h:j<o.length),o[j]=false):Qcm o= -1:=by
 have:o.findIdx? id=none:=by
  rw[List.findIdx?_eq_none_iff]
  intro x y
  obtain⟨j,z,rfl⟩:=List.mem_iff_getElem.1 y
  exact q j z
 unfold Qcm
 rw[this]
theorem Qhv (b o n c:Nat) (q:List Bool) (w:World) (J:q.length=n) (M:n<=100) (I:∀(j:Nat) (h:j<q.length),w.cell? ⟨b,o+j,none⟩=some (.bool q[j])):
 Calls Tryz.prog 20 #[.slice (some ⟨b,o,none⟩) n c] w fun e w'=>e=.returned (.int .i64 (Qcm q))/\w'=w:=by
 have F:=Hk (Ai I J)
 clear I J
 go_enter Tryz.func20,Tryz.ntmps20
 go_wp2
 go_loopw [7] (fun i wr=>∃k:Nat,k<=n/\i=.int .i64 k/\(∀j (h:j<q.length),j<k->q[j]=false)/\wr=w) (fun i _=>n-(intOf i).toNat)
 case atStart=>exact⟨0,Nat.zero_le _,rfl,fun j _ h=>absurd h (by omega),rfl⟩
 case round=>
  obtain⟨k,N,rfl,A,rfl⟩:=hrel
  have B:=Hk A
  clear A
  by_cases hlt:k<n
  ·have y:k<q.length:=by have:=F.out.2;omega
   have d0:=F.out.1 k y
   have D:=Hk (QjG q k y B.out)
   cases g:q[k]
   ·rw[g] at d0
    have K:=Hk g
    clear g
    go_wp2
    go_roundw
    case rel=>
     refine⟨k+1,by omega,by go_num,fun j h hj=>?_,by trivial⟩
     rcases Nat.lt_or_ge j k with z|z
     ·exact B.out j h z
     ·obtain rfl:j=k:=by omega
      exact K.out
    case measure=>simp[intOf];omega
   ·rw[g] at d0 D
    have E:=Hk (D.out rfl)
    clear g D
    go_wp2
    go_ret
    exact⟨QcK E.out.symm,rfl⟩
  ·have E:=Hk (QiM q (fun j h=>B.out j h (by have:=F.out.2;omega)))
   go_wp2
   go_ret
   exact⟨QcK E.out.symm,rfl⟩
def QdH (cs:List Cl) (ss:List ByteArray) (i:Nat):Int:=match ss[i]? with
 |some s=>Qaq cs s.data.toList
 |none=>-1
theorem QdR (U AB T b o n c m:Nat) (V:Value) (cs:List Cl) (ss:List ByteArray) (i:Nat) (w:World) (ad:w.cell? ⟨U,0,none⟩=some (.int .i64 m)) (q:w.cell? ⟨AB,0,none⟩=some (.slice (some ⟨b,o,none⟩) n c)) (j:w.cell? ⟨T,4,none⟩=some V) (N:QaX w V ss) (z:ss.length=m) (ag:m<=100) (hi:i<=100) (E:cs.length=n) (O:n<=100) (Z:b<w.heap.size) (F:Qas w b o cs):
 Calls Tryz.prog 18 #[.int .i64 i,.pointer (some ⟨U,0,none⟩),.pointer (some ⟨AB,0,none⟩),.pointer (some ⟨T,0,none⟩)] w fun e w'=>e=.returned (.int .i64 (QdH cs ss i))/\Below w.heap.size w w':=by
 obtain⟨sa,sc,rfl,-,-,y⟩:=N
 by_cases hlt:i<m
 ·obtain⟨A,no,rfl,ab,D⟩:∃A no,sa=some ⟨A,no,none⟩/\A<w.heap.size/\QbO w A no ss:=by
   rcases y with h|h
   ·rw[h] at z;simp at z;omega
   ·exact h
  have B:i<ss.length:=by omega
  have d0:=D i B
  have J:=Hk (show QdH cs ss i=Qaq cs ss[i].data.toList by unfold QdH;rw[List.getElem?_eq_getElem B])
  rw[z] at j
  generalize ss[i]=s at*
  have e1:=cell_regrown q
  have e2:=cell_regrown j
  have e3:=cell_regrown d0
  have M:=fun d os=>Calls.regrown_of (Qdw b o n c cs s (Sort.grow (redrawn w d) os) E O (by have:=(below_regrown w d os).size;omega) (F.below (below_regrown w d os) Z))
  have af:(0:Int)<=(i:Int):=by omega
  clear q j d0 y D E F z
  go_enter Tryz.func18,Tryz.ntmps18
  go_wp2
  refine wp_region_quiet_below (by kernel_rfl) (by kernel_rfl) ?_
  repeat(any_goals(first|go_big_quiet_step (exact M _ _)|quiet_step (exact M _ _)))
  refine wpQuiet_nil ?_
  intro _ K
  obtain⟨⟨dq,ae⟩,I⟩:=K
  subst I
  go_wp2
  go_ret
  exact⟨by rw[J.out];rfl,below_regrown _ _ _⟩
 ·have J:=Hk (show QdH cs ss i= -1 by unfold QdH;rw[List.getElem?_eq_none (by omega)])
  have ac:(m:Int)<=(i:Int):=by omega
  clear y F E j q z hlt
  go_enter Tryz.func18,Tryz.ntmps18
  go_wp2
  go_ret
  exact⟨QcK J.out.symm,Below.refl _ _⟩
def Qbz (w:World) (b o:Nat) (hs:List (List Cl)):Prop:=∀(i:Nat) (h:i<hs.length),∃u,w.cell? ⟨b,o+i,none⟩=some u/\Qav w u hs[i]
theorem Qbz.below {w y:World} {b o:Nat} {q:List (List Cl)} (h:Qbz w b o q) (j:Below w.heap.size w y) (z:b<w.heap.size):Qbz y b o q:=fun i hi=>by
 obtain⟨u,A,B⟩:=h i hi
 exact⟨u,cK j z A,B.below j⟩
def QaO (e:Ending) (w':World) (B:Nat) (no:Int) (css:List (List Cl)):Prop:=(no≠0/\e=.returned (.tuple #[.slice none 0 0,.int .i64 no]))\/(no=0/\∃g c,e=.returned (.tuple #[.slice (some ⟨g,0,none⟩) css.length c,.int .i64 0])/\B<=g/\g<w'.heap.size/\Qbz w' g 0 css)
theorem QcF.res {e:Ending} {o:World} {B:Nat} {no:Int} {cs:List Cl} (h:QcF e o B no cs):QaO e o B no [cs]:=by
 rcases h with h|⟨q,g,u,he,z,y,A,j⟩
 ·exact Or.inl h
 ·refine Or.inr ⟨q,g,1,he,z,y,fun i hi=>?_⟩
  obtain rfl:i=0:=by simp at hi;omega
  exact⟨u,A,j⟩
theorem QeP (O M:Option Addr) (h E m N:Nat) (j:Jb) (o z:Nat) (w:World) (K:j.outs=.slice M m N) (F:QaP j.code=((o:Int),(z:Int))) (U:h<=1000) (hm:m<=1000) (T:o<=2) (V:z<=2) (y:o=0\/h≠o\/m≠z):
 Calls Tryz.prog 9 #[.agg j.cells,.slice O h E] w fun e w'=>QaO e w' w.heap.size 1 []/\Below w.heap.size w w':=by
 have D:=fun W=>QdP j.code W
 rw[F] at D
 have B:=Hk D
 clear D F
 unfold Jb.cells
 rw[K]
 by_cases A:o=0
 ·subst A
  clear y
  go_enter Tryz.func9,Tryz.ntmps9
  go_wp2_with (go_at_call 7;refine(B.out _).mono ?_;rintro e I ⟨rfl,q⟩;subst q)
  go_ret2
  exact⟨Or.inl ⟨by decide,rfl⟩,Qab _ _⟩
 ·have h0':((o:Int)==0)=false:=by simp;omega
  by_cases J:h=o
  ·have h1':((h:Int) != (o:Int))=false:=by simp;omega
   have Z:((m:Int) != (z:Int))=true:=by simp;omega
   clear y A J
   go_enter Tryz.func9,Tryz.ntmps9
   go_wp2_with (go_at_call 7;refine(B.out _).mono ?_;rintro e I ⟨rfl,q⟩;subst q)
   go_ret2
   exact⟨Or.inl ⟨by decide,rfl⟩,Qab _ _⟩
  ·have h1':((h:Int) != (o:Int))=true:=by simp;omega
   clear y A J
   go_enter Tryz.func9,Tryz.ntmps9
   go_wp2_with (go_at_call 7;refine(B.out _).mono ?_;rintro e I ⟨rfl,q⟩;subst q)
   go_ret2
   exact⟨Or.inl ⟨by decide,rfl⟩,Qab _ _⟩
theorem QjH (h:World) (u v:Value) (t j:TypeId) (H:Nat) (o:h.heap.size=H):((h.alloc (.cells #[u] t)).alloc (.cells #[v] j)).drew.cell? ⟨H,0,none⟩=some u/\((h.alloc (.cells #[u] t)).alloc (.cells #[v] j)).drew.cell? ⟨H+1,0,none⟩=some v/\H<((h.alloc (.cells #[u] t)).alloc (.cells #[v] j)).drew.heap.size/\H+1<((h.alloc (.cells #[u] t)).alloc (.cells #[v] j)).drew.heap.size/\Below h.heap.size h ((h.alloc (.cells #[u] t)).alloc (.cells #[v] j)).drew:=by
 subst o
 refine⟨?_,?_,by simp;omega,by simp,(((Below.refl _ _).alloc (Nat.le_refl _) _).alloc (by simp) _).drew⟩
 ·show((h.alloc _).alloc _).cell? _=_
  rw[World.cell?_alloc_past _ _ _ (by simp)]
  simp
 ·show((h.alloc (.cells #[u] t)).alloc _).cell? _=_
  rw[show h.heap.size+1=(h.alloc (.cells #[u] t)).heap.size by simp]
  simp
def Ql3:Nat->Code->Code
 |0,c=>c
 |n+1,.seq _ b=>Ql3 n b
 |_+1,c=>c
noncomputable def QkL:Code:=Tryz.f9.body.getD .skip
structure ColAt (w:World) (j:Jb) (L A N:Nat) (v0:Value) (wc:World):Prop where
 bel:Below w.heap.size w wc
 big:w.heap.size+1<=wc.heap.size
 job:Qaz wc w.heap.size j
 a0:wc.cell? ⟨A,0,none⟩=some v0
 m0:wc.cell? ⟨N,0,none⟩=some (.int .i64 L)
 Al:A<wc.heap.size
 Nl:N<wc.heap.size
 A0:w.heap.size<A
 N0:w.heap.size<N
def QlD (w:World) (j:Jb) (hb ho tk cin mk L:Nat) (v0:Value) (post:Ending->World->Prop):Prop:=∀(y0 y3 y4 y5 y10 y11 y12 y13 y14 y15 y16 y17 y18 y19 y20 y21 y22 y23 y24 y25 y26 y27 y28 y29 y30 y31 y32 y33 y34 y35 y36 y37 y38 y39 y40 y41 y42 y43 y44 y45 y46 y47 y48 y49 y50 y51 y52 y53 y54 y55 y56 y57 y58 y59 y60 y61 y62 y63 y64 y65 y66 y67 y68 y69 y70 y71 y72 y73 y74 y75 y76 y77 y78 y79 y80 y81 y82 y83 y84 y85 y86 y87 y88 y89 y90 y91 y92 y93 y94 y95 y96 y97 y98 y99 y100 y101 y102 y103 y104 y105 y106 y107 y108 y109 y110 y111 y112 y113 y114 y115 y116 y117 y118 y119 y120 y121 y122 y123 y124 y125 y126 y127 y128 y129 y130 y131 y132 y133 y134 y135 y136 y137 y138 y139 y140 y141 y142 y143 y144 y145 y146 y147 y148 y149 y150 y151 y152 y153 y154 y155 y156 y157 y158 y159 y160 y161 y162 y163 y164 y165 y166 y167 y168 y169 y170 y171 y172 y173 y174 y175 y176 y177 y178 y179 y180 y181 y182 y183 y184 y185 y186 y187 y188 y189 y190 y191 y192 y193 y194 y195 y196 y197 y198 y199 y200 y201 y202 y203 y204 y205 y206 y207 y208 y209 y210 y211 y212 y213 y214 y215 y216 y217 y218 y219 y220 y221 y222 y223 y224 y225 y226 y227 y228 y229 y230 y231:Value) (A N:Nat) (wc:World),ColAt w j L A N v0 wc->Code.wp Tryz.prog (Ql3 4 QkL) (bodyPost Tryz.prog Tryz.f9 fun e w'=>post e w') ⟨#[y0,.slice (some ⟨hb,ho,none⟩) tk cin,.pointer (some ⟨w.heap.size,0,none⟩),y3,y4,y5,.int .i64 tk,.int .i64 mk,.pointer (some ⟨A,0,none⟩),.pointer (some ⟨N,0,none⟩),y10,y11,y12,y13,y14,y15,y16,y17,y18,y19,y20,y21,y22,y23,y24,y25,y26,y27,y28,y29,y30,y31,y32,y33,y34,y35,y36,y37,y38,y39,y40,y41,y42,y43,y44,y45,y46,y47,y48,y49,y50,y51,y52,y53,y54,y55,y56,y57,y58,y59,y60,y61,y62,y63,y64,y65,y66,y67,y68,y69,y70,y71,y72,y73,y74,y75,y76,y77,y78,y79,y80,y81,y82,y83,y84,y85,y86,y87,y88,y89,y90,y91,y92,y93,y94,y95,y96,y97,y98,y99,y100,y101,y102,y103,y104,y105,y106,y107,y108,y109,y110,y111,y112,y113,y114,y115,y116,y117,y118,y119,y120,y121,y122,y123,y124,y125,y126,y127,y128,y129,y130,y131,y132,y133,y134,y135,y136,y137,y138,y139,y140,y141,y142,y143,y144,y145,y146,y147,y148,y149,y150,y151,y152,y153,y154,y155,y156,y157,y158,y159,y160,y161,y162,y163,y164,y165,y166,y167,y168,y169,y170,y171,y172,y173,y174,y175,y176,y177,y178,y179,y180,y181,y182,y183,y184,y185,y186,y187,y188,y189,y190,y191,y192,y193,y194,y195,y196,y197,y198,y199,y200,y201,y202,y203,y204,y205,y206,y207,y208,y209,y210,y211,y212,y213,y214,y215,y216,y217,y218,y219,y220,y221,y222,y223,y224,y225,y226,y227,y228,y229,y230,y231],[]⟩ wc
theorem Qa6 (D U B Z V L sc oc n c:Nat) (oa sa E:Option Addr) (j:Jb) (w:World) (av:D<w.heap.size) (h0:w.cell? ⟨D,U,none⟩=some (.slice E n c)) (hs:QaP j.code=((B:Int),(V:Int))) (aD:0<B) (hj:j.outs=.slice oa V oc) (ab:j.cols=.slice sa L sc) (K:Ending->World->Prop) (z:QlD w j D U B Z V L (.slice E n c) K):
 Calls Tryz.prog 9 #[.agg j.cells,.slice (some ⟨D,U,none⟩) B Z] w fun e w'=>K e w':=by
 have hS:=fun W=>QdP j.code W
 rw[hs] at hS
 have HS:=Hk hS
 clear hS
 have aC:((B:Int)==0)=false:=by simp;omega
 have aE:(0:Int)<(B:Int):=by omega
 have HR:=Hk z
 clear z
 unfold Jb.cells
 obtain⟨h,o⟩:∃q,q=w.alloc (.cells j.cells 28):=⟨_,rfl⟩
 have M:Below w.heap.size w h:=by rw[o];exact Qab _ _
 have hz:h.heap.size=w.heap.size+1:=by rw[o];simp
 have f0:=cK M av h0
 have y:Qaz h w.heap.size j:=by rw[o];exact Qbd w j _
 have au:=Hk y
 have j1:h.cell? ⟨w.heap.size,1,none⟩=some (.int .i64 j.code):=y 1 _ rfl
 have j2:h.cell? ⟨w.heap.size,2,none⟩=some (.slice oa V oc):=by rw[<-hj];exact y 2 _ rfl
 have j4:h.cell? ⟨w.heap.size,4,none⟩=some (.slice sa L sc):=by rw[<-ab];exact y 4 _ rfl
 have n0:=World.new_ne h _ f0
 have n4:=World.new_ne h _ j4
 have al:=Hk M
 clear y h0 M hs hj ab
 unfold Jb.cells at o
 go_enter Tryz.func9,Tryz.ntmps9
 go_upto_region 1 with fail
 rename_i K0 aa
 rw[<-o]
 clear o
 have ap:=Hk aa
 clear aa
 go_wp2_with (go_at_call 7;refine(HS.out _).mono ?_;rintro e w2 ⟨rfl,aq⟩;obtain rfl:h=w2:=aq.symm)
 refine ap.out _ _ ?_
 go_upto_region 4 with fail
 go_cut [8,9] (fun v8 v9 wx=>∃A N:Nat,v8=.pointer (some ⟨A,0,none⟩)/\v9=.pointer (some ⟨N,0,none⟩)/\Aside (wx.cell? ⟨A,0,none⟩=some (.slice E n c)/\wx.cell? ⟨N,0,none⟩=some (.int .i64 L)/\A<wx.heap.size/\N<wx.heap.size/\w.heap.size<A/\w.heap.size<N/\Below h.heap.size h wx))
 case first=>
  go_region_held3 (fun w'=>w'.cell? ⟨D,U,none⟩=some (.slice E n c)/\w'.cell? ⟨w.heap.size,4,none⟩=some (.slice sa L sc)) (go_keep) (first|fail)
  all_goals go_wp2_with fail
  all_goals go_meet
  ·obtain⟨F,T,I,J,O⟩:=QjH h (.slice E n c) (.int .i64 L) 33 3 _ hz
   exact⟨_,_,rfl,rfl,F,T,I,J,by omega,by omega,O⟩
  ·obtain⟨F,T,I,J,O⟩:=QjH h (.int .i64 L) (.slice E n c) 3 33 _ hz
   exact⟨_,_,rfl,rfl,T,F,J,I,by omega,by omega,O⟩
 case rest=>
 rename_i K1 ai
 obtain⟨A,N,rfl,rfl,ad⟩:=hcut
 obtain⟨F,T,I,J,O,x6,x7⟩:=ad.out
 have aG:=x7.size
 refine ai _ _ (HR.out _ _ _ _ _ _ _ _ _ _ _ _ _ _ _ _ _ _ _ _ _ _ _ _ _ _ _ _ _ _ _ _ _ _ _ _ _ _ _ _ _ _ _ _ _ _ _ _ _ _ _ _ _ _ _ _ _ _ _ _ _ _ _ _ _ _ _ _ _ _ _ _ _ _ _ _ _ _ _ _ _ _ _ _ _ _ _ _ _ _ _ _ _ _ _ _ _ _ _ _ _ _ _ _ _ _ _ _ _ _ _ _ _ _ _ _ _ _ _ _ _ _ _ _ _ _ _ _ _ _ _ _ _ _ _ _ _ _ _ _ _ _ _ _ _ _ _ _ _ _ _ _ _ _ _ _ _ _ _ _ _ _ _ _ _ _ _ _ _ _ _ _ _ _ _ _ _ _ _ _ _ _ _ _ _ _ _ _ _ _ _ _ _ _ _ _ _ _ _ _ _ _ _ _ _ _ _ _ _ _ _ _ _ _ _ _ _ _ _ _ _ _ _ _ _ _ _ _ _ ?_)
 exact⟨Qaa al.out x7,by omega,au.out.below x7 (by omega),F,T,I,J,O,x6⟩
end Go.Proofs.YtofidnijfnhpaaaGreatDoor
