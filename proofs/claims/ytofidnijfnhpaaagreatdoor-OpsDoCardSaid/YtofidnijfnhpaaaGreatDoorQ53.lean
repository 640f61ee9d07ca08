import Derived.Test.YtofidnijfnhpaaaGreatDoorQ01
import Derived.Test.YtofidnijfnhpaaaGreatDoorQ51
import Derived.Test.YtofidnijfnhpaaaGreatDoorQ52
set_option linter.unusedSimpArgs false
set_option linter.unusedVariables false
set_option linter.unusedSectionVars false
set_option maxRecDepth 1000000
set_option maxHeartbeats 16000000
namespace Go.Proofs.YtofidnijfnhpaaaGreatDoor
open Go.RowKit
def Qms (w:World):Prop:=w.cell? ⟨1,0,none⟩=some (.iface 159 (.agg #[.pointer (some ⟨5,44,none⟩)]))
theorem Qms.below {w j:World} (h:Qms w) (o:Below w.heap.size w j):Qms j:=by
 unfold Qms at h⊢
 rw[o.cell (p:=⟨1,0,none⟩) (World.block_lt_of_cell? w ⟨1,0,none⟩ h)]
 exact h
theorem Qkf {w:World} {B:Nat} {v:Value} {j:Nat} {us:List Value} {cs:List Cl} (h:w.ownsRow B 33 1 v j us) (o:Qbi w B us cs) (hsz:∀x∈cs,x.1.size<=maxLen) (i:Nat) (D:i<j):∃g c u,v=.slice (some ⟨g,0,none⟩) j c/\g<w.heap.size/\w.cell? ⟨g,i,none⟩=some u/\Qav w u cs/\cs.length<=maxLen:=by
 obtain⟨g,c,rfl,-,A,y⟩:=QaY h (by omega)
 have E:us.length=j:=by
  obtain⟨F,-⟩:=h
  omega
 have z:us[i]? =some us[i]:=List.getElem?_eq_getElem (by omega)
 have q:us[i]∈us:=List.getElem_mem _
 exact⟨g,c,us[i],rfl,A,by simpa using y i _ z,Qbx (o _ q) hsz,QeW (o _ q)⟩
theorem Qkg (j:Jb) (ss:List ByteArray) (oa ia va:Option Addr) (mo mi oc ic tcap:Nat) (ts:List Tb) (w:World) (ho:j.outs=.slice oa mo oc) (hi:j.ins=.slice ia mi ic) (hs:QaX w j.cols ss) (hsz:j.sized) (cI:∀s∈ss,s.size<=maxLen) (hE:Env w) (hT:Qms w) (ht:ts=[]\/∃tb O,va=some ⟨tb,O,none⟩/\tb<w.heap.size/\Qf2 w tb O ts) (hn:ts.length<=maxLen):
 Calls Tryz.prog 3 #[.agg j.cells,.slice va ts.length tcap] w fun e w'=>e=.returned (.bool true)/\Below w.heap.size w w':=by
 have aa:=fun V (F:Below w.heap.size w V)=>Qi3 j ss oa ia mo mi oc ic V ho hi (hs.below F) hsz cI
 have bI:=fun n V (F:Below w.heap.size w V)=>Dk.bare_any n V (hT.below F)
 have bM:=Hk bI
 have aI:=Qab w (.cells j.cells 28)
 have b5:=Qbd w j 28
 unfold Jb.cells at aa aI b5⊢
 have bW:=Hk aa
 have N:=Hk aI
 have cH:=Hk b5
 unfold maxLen at hn
 have HH:=Hk (Ai ho (Ai hs (Ai hsz (Ai hE ht))))
 clear aa aI b5 bI cI hT ho hi hs hsz hE ht
 by_cases h4:4<ts.length
 ·have dh:(4:Int)<(ts.length:Int):=by omega
  go_enter Tryz.func3,Tryz.ntmps3
  go_wp2_with (go_at_call 4;refine(bW.out _ N.out).mono ?_;rintro e M ⟨⟨bb,rfl,hF⟩,au⟩;cases bb)
  all_goals go_ret
  all_goals exact⟨rfl,Qaa N.out au⟩
 have dh:¬(4:Int)<(ts.length:Int):=by omega
 go_enter Tryz.func3,Tryz.ntmps3
 go_wp2_with (go_at_call 4;refine(bW.out _ N.out).mono ?_;rintro e M ⟨⟨bb,rfl,hF⟩,au⟩;cases bb)
 ·go_ret
  exact⟨rfl,Qaa N.out au⟩
 have aa:=hF (by trivial)
 clear hF bW
 have aj:=Qaa N.out au
 have aJ:Qaz M w.heap.size j:=fun k v hk=>(au.cell (p:=⟨w.heap.size,k,none⟩) (by simp)).trans (cH.out k v hk)
 have de:w.heap.size<M.heap.size:=by have:=au.size;simp at this;omega
 have hI:JobIn w j ss mo:=⟨HH.out.2.2.2.1,Nat.le_trans aa.op (by omega),Nat.le_trans aa.left (by unfold maxLen;omega),Nat.le_trans aa.right (by unfold maxLen;omega),HH.out.2.1,Nat.le_trans aa.few (by omega),⟨oa,oc,HH.out.1⟩⟩
 have HI:=Hk (Ai hI aa.outs)
 have dr:=Hk (Ai aj aJ)
 clear au aj aJ hI aa N cH
 obtain⟨i0,hi,cM,cx,cy⟩:=info_parts Tryz.infoCols
 go_loopw [5,6,7] (fun l r i wr=>∃(k:Nat) (us:List Value),k<=ts.length/\i=.int .i64 k/\wr.ownsRow M.heap.size 33 1 l k us/\r=.bool ((ts.take k).all fun t=>Qah t.1)/\Aside (QaA w us ((ts.take k).map (·.1))/\(∀t∈ts.take k,Qfw t.1)/\Below M.heap.size M wr)) (fun _ _ i _=>ts.length-(intOf i).toNat)
 case atStart=>exact⟨0,[],Nat.zero_le _,rfl,World.ownsRow_nil _ _ _ _,rfl,⟨rfl,fun j hj=>absurd hj (by simp)⟩,fun t ht=>absurd ht (by simp),Below.refl _ _⟩
 case round=>
  obtain⟨k,us,hk,rfl,al,rfl,HA⟩:=hrel
  obtain⟨la,lc,rfl⟩:=Qae al
  have HO:=Hk al
  clear al
  obtain⟨aj,aJ⟩:=dr.out
  have aM:=Qaa aj HA.out.2.2
  have cD:=HA.out.2.2.size
  by_cases hlt:k<ts.length
  ·have dK:(k:Int)<(ts.length:Int):=by omega
   obtain⟨tb,O,rfl,a9,aq⟩:∃tb O,va=some ⟨tb,O,none⟩/\tb<w.heap.size/\Qf2 w tb O ts:=by
    rcases HH.out.2.2.2.2 with h|h
    ·rw[h] at hlt;simp at hlt
    ·exact h
   obtain⟨vc,vr,c0,c1,hc,hr,-⟩:=aq k hlt
   have d0:=cK aM a9 c0
   have d1:=cK aM a9 c1
   have bK:=Hk (fun V (F:Below w.heap.size w V)=>Qkc vc vr ts[k].1 ts[k].2 V (hc.below F) (hr.is.below F))
   have ce:=Hk (fun V (F:Below w.heap.size w V) (aN:Qfw ts[k].1)=>Qda vc ts[k].1 V (hc.below F) (by have:=aN.1;omega) aN.2)
   have HC:=Hk hc
   have aK:=Hk (show ts.take (k+1)=ts.take k++[ts[k]] from List.take_succ_eq_append_getElem hlt)
   obtain⟨ca,cc,rfl,-⟩:=hc
   obtain⟨ra,rc,rfl,-⟩:=hr
   have ao:=Hk aM
   clear c0 c1 aq aj aJ aM
   generalize ts[k]=t at*
   obtain⟨n1,bO⟩:∃z,t.1.length=z:=⟨_,rfl⟩
   have dX:=Hk bO
   rw[bO] at d0 bK ce HC
   obtain⟨n2,cw⟩:∃z,t.2.length=z:=⟨_,rfl⟩
   rw[cw] at d1 bK
   clear bO cw
   obtain⟨bq,cf⟩:∃z,(ts.take k).all (fun t=>Qah t.1)=z:=⟨_,rfl⟩
   have cJ:=Hk cf
   rw[cf]
   clear cf
   have br:tb<wr.heap.size:=Nat.lt_of_lt_of_le a9 ao.out.size
   cases bq
   ·as_aux_lemma=>
     go_wp2_with (first|(go_at_call 5;refine(bK.out _ ao.out).mono ?_;rintro e T ⟨⟨bb,rfl,hF⟩,A⟩;have e4:=cK A br d0;have cv:=A.size;have Z:=Hk A;clear A;cases bb)|(at_builtin;refine wpList_append_own _ rfl _ _ 31 rfl M.heap.size 33 i0 (.slice none 0 0) 1 24 Tryz.underlying31 hi cM cx cy rfl (by decide) _ _ _ rfl ((Qaf HO.out Z.out).alloc _) ⟨T.heap.size,0,none⟩ 1 1 [.slice ca n1 cc] rfl rfl (QbG _ _ _ _ rfl) (QbZ _ _ _) ?c3 ?c4 ?c5 ?_))
     ·go_ret
      exact⟨rfl,Qaa ao.out Z.out⟩
     case c3=>unfold maxLen;omega
     case c4=>omega
     case c5=>simp;omega
     intro v' w6 af U _
     have aN:=hF (by trivial)
     have cR:=Qaa ao.out Z.out
     have bw:Below M.heap.size M T:=HA.out.2.2.trans (Z.out.mono cD)
     have av:Below M.heap.size M w6:=(bw.alloc (by omega) _).grown U (by simp;omega) (fun q hq=>(HO.out.lt q hq).1)
     have a8:QaA w (us++[.slice ca n1 cc]) ((ts.take (k+1)).map (·.1)):=by
      rw[aK.out,List.map_append]
      exact HA.out.1.snoc HC.out
     have be:∀t'∈ts.take (k+1),Qfw t'.1:=by
      rw[aK.out]
      intro t' ck
      rcases List.mem_append.1 ck with h|h
      ·exact HA.out.2.1 t' h
      ·simp at h;rw[h];exact aN
     have a7:(ts.take (k+1)).all (fun t=>Qah t.1)=false:=by
      rw[aK.out,List.all_append,cJ.out];rfl
     have HF:=Hk (Ai af (Ai a8 (Ai be (Ai av a7))))
     clear af U av a8 be a7
     go_wp2
     go_roundw
     case rel=>exact⟨k+1,_,by omega,by go_num,HF.out.1,by rw[HF.out.2.2.2.2],HF.out.2.1,HF.out.2.2.1,HF.out.2.2.2.1⟩
     case measure=>simp[intOf];omega
   ·as_aux_lemma=>
     obtain⟨rb,bU⟩:∃z,Qah t.1=z:=⟨_,rfl⟩
     have ds:=Hk bU
     rw[bU] at ce
     clear bU
     go_wp2_with (first|(go_at_call 5;refine(bK.out _ ao.out).mono ?_;rintro e T ⟨⟨bb,rfl,hF⟩,A⟩;have e4:=cK A br d0;have cv:=A.size;have Z:=Hk A;clear A;cases bb)|(go_at_call 6;refine(ce.out _ (Qaa ao.out Z.out) (hF (by trivial))).mono ?_;rintro e w5 ⟨rfl,bG⟩;have e5:=cK bG (Nat.lt_of_lt_of_le br cv) e4;have dZ:=bG.size;have aL:=Hk bG;clear bG)|(at_builtin;refine wpList_append_own _ rfl _ _ 31 rfl M.heap.size 33 i0 (.slice none 0 0) 1 24 Tryz.underlying31 hi cM cx cy rfl (by decide) _ _ _ rfl ((Qaf (Qaf HO.out Z.out) aL.out).alloc _) ⟨w5.heap.size,0,none⟩ 1 1 [.slice ca n1 cc] rfl rfl (QbG _ _ _ _ rfl) (QbZ _ _ _) ?c3 ?c4 ?c5 ?_))
     ·go_ret
      exact⟨rfl,Qaa ao.out Z.out⟩
     case c3=>unfold maxLen;omega
     case c4=>omega
     case c5=>simp;omega
     intro v' w6 af U _
     have aN:=hF (by trivial)
     have cR:=Qaa ao.out Z.out
     have bw:Below M.heap.size M T:=HA.out.2.2.trans (Z.out.mono cD)
     have cV:Below M.heap.size M w5:=bw.trans (aL.out.mono (by omega))
     have av:Below M.heap.size M w6:=(cV.alloc (by omega) _).grown U (by simp;omega) (fun q hq=>(HO.out.lt q hq).1)
     have a8:QaA w (us++[.slice ca n1 cc]) ((ts.take (k+1)).map (·.1)):=by
      rw[aK.out,List.map_append]
      exact HA.out.1.snoc HC.out
     have be:∀t'∈ts.take (k+1),Qfw t'.1:=by
      rw[aK.out]
      intro t' ck
      rcases List.mem_append.1 ck with h|h
      ·exact HA.out.2.1 t' h
      ·simp at h;rw[h];exact aN
     have a7:(ts.take (k+1)).all (fun t=>Qah t.1)=rb:=by
      rw[aK.out,List.all_append,cJ.out]
      simp[ds.out]
     have HF:=Hk (Ai af (Ai a8 (Ai be (Ai av a7))))
     clear af U av a8 be a7
     go_wp2
     go_roundw
     case rel=>exact⟨k+1,_,by omega,by go_num,HF.out.1,by rw[HF.out.2.2.2.2],HF.out.2.1,HF.out.2.2.1,HF.out.2.2.2.1⟩
     case measure=>simp[intOf];omega
  ·obtain rfl:ts.length=k:=by omega
   rw[List.take_length] at HA⊢
   obtain⟨a6,a5,b8⟩:=HA.out
   have y:=aJ.below b8 de
   have bc:=y.lt
   have k1:wr.cell? ⟨w.heap.size,1,none⟩=some (.int .i64 j.code):=y 1 _ rfl
   have dn:=Hk (QdP j.code)
   have db:=Hk (Qdo j.code)
   have HX:=Hk (Ai aM (Ai a6 (Ai a5 y)))
   generalize (QaP j.code).1=z1 at*
   generalize (QaP j.code).2=z2 at*
   obtain⟨R,hR⟩:∃z,ts.all (fun t=>Qah t.1)=z:=⟨_,rfl⟩
   have dC:=Hk hR
   rw[hR]
   clear HA a6 a5 b8 y aM aj aJ hR
   go_upto_if 79 with (first|(go_at_call 7;refine(dn.out _).mono ?_;rintro e w5 ⟨rfl,dx⟩;obtain rfl:wr=w5:=dx.symm)|(go_at_call 8;refine(db.out _).mono ?_;rintro e w6 ⟨rfl,dp⟩;obtain rfl:wr=w6:=dp.symm))
   go_cut [] (fun wx=>Aside (Below w.heap.size w wx/\Qaz wx w.heap.size j/\w.heap.size<wx.heap.size))
   case first=>
    as_aux_lemma=>
     cases R
     ·go_wp2
      go_meet
      exact⟨HX.out.1,HX.out.2.2.2,bc⟩
     ·obtain⟨no,mk,cs,cE⟩:=Qkb HI.out.1 (ts.map (·.1)) (fun cs hcs=>by
       obtain⟨t,ht,rfl⟩:=List.mem_map.1 hcs
       exact List.all_eq_true.1 dC.out t ht) (by rw[List.length_map];omega) (by have:=HI.out.2;omega)
      have al:=HO.out
      have ba:=fun V (F:Below wr.heap.size wr V)=>cE V M.heap.size (.slice la ts.length lc) us (Qaa HX.out.1 F) (by rw[List.length_map];exact Qaf al F) (HX.out.2.1.below (Qaa HX.out.1 F))
      unfold Jb.cells at ba
      clear cE al
      have y:=HX.out.2.2.2
      have j0:wr.cell? ⟨w.heap.size,0,none⟩=some (.int .i64 j.at_):=y 0 _ rfl
      have j1:wr.cell? ⟨w.heap.size,1,none⟩=some (.int .i64 j.code):=y 1 _ rfl
      have j2:wr.cell? ⟨w.heap.size,2,none⟩=some (j.outs):=y 2 _ rfl
      have j3:wr.cell? ⟨w.heap.size,3,none⟩=some (j.ins):=y 3 _ rfl
      have j4:wr.cell? ⟨w.heap.size,4,none⟩=some (j.cols):=y 4 _ rfl
      have j5:wr.cell? ⟨w.heap.size,5,none⟩=some (.string j.op):=y 5 _ rfl
      have j6:wr.cell? ⟨w.heap.size,6,none⟩=some (.string j.left.1):=y 6 _ rfl
      have j7:wr.cell? ⟨w.heap.size,7,none⟩=some (.int .i64 j.left.2.1):=y 7 _ rfl
      have j8:wr.cell? ⟨w.heap.size,8,none⟩=some (.int .i64 j.left.2.2.1):=y 8 _ rfl
      have j9:wr.cell? ⟨w.heap.size,9,none⟩=some (.string j.left.2.2.2):=y 9 _ rfl
      have ag:wr.cell? ⟨w.heap.size,10,none⟩=some (.string j.right.1):=y 10 _ rfl
      have ac:wr.cell? ⟨w.heap.size,11,none⟩=some (.int .i64 j.right.2.1):=y 11 _ rfl
      have ah:wr.cell? ⟨w.heap.size,12,none⟩=some (.int .i64 j.right.2.2.1):=y 12 _ rfl
      have ae:wr.cell? ⟨w.heap.size,13,none⟩=some (.string j.right.2.2.2):=y 13 _ rfl
      have ad:wr.cell? ⟨w.heap.size,14,none⟩=some (.int .i64 j.retry):=y 14 _ rfl
      clear y
      have N:=Hk (fun V (F:Below wr.heap.size wr V) n=>bM.out n V (Qaa HX.out.1 F))
      by_cases hno:no=0
      ·as_aux_lemma=>
        subst hno
        have aD:=Hk ba
        clear ba k1
        have aH:=fun V (F:Below wr.heap.size wr V)=>N.out V F 0
        rw[Qdp] at aH
        have J:=Hk aH
        clear aH
        go_wp2_with (first|(go_at_call 9;refine(aD.out _ (Below.refl _ _)).1.mono ?_;rintro e w2 ⟨B,o⟩;obtain⟨g,c,rfl,du,bJ,hH⟩:=B.resolve_left (fun h=>h.1 rfl)|>.2;rw[List.length_replicate];have p0:=cK o (by omega) j0;have p1:=cK o (by omega) j1;have p2:=cK o (by omega) j2;have p3:=cK o (by omega) j3;have p4:=cK o (by omega) j4;have p5:=cK o (by omega) j5;have p6:=cK o (by omega) j6;have p7:=cK o (by omega) j7;have p8:=cK o (by omega) j8;have p9:=cK o (by omega) j9;have az:=cK o (by omega) ag;have aC:=cK o (by omega) ac;have aw:=cK o (by omega) ah;have aA:=cK o (by omega) ae;have aB:=cK o (by omega) ad)|(go_at_call 10;refine(aD.out _ o).2.mono ?_;rintro e w3 ⟨B,D⟩;obtain⟨v3,d4,rfl,ap,bf⟩:=B.resolve_left (fun h=>h.1 rfl)|>.2;obtain⟨dY,cC,rfl⟩:=Qae ap;have E:=Qaa o D)|(go_at_call 11;refine(J.out _ E).mono ?_;rintro e T ⟨rfl,A⟩))
        have ay:=Hk (Ai hH (Ai ap bf))
        have bT:=QeW ap
        unfold maxLen at bT
        have dV:=o.size
        have dE:=D.size
        have dT:=A.size
        have ak:=Hk (Ai o (Ai D A))
        clear j0 j1 j2 j3 j4 j5 j6 j7 j8 j9 ag ac ah ae ad p0 p1 p2 p3 p4 p5 p6 p7 p8 p9 az aC aw aA aB o D A E hH ap bf aD J
        obtain⟨wa,rfl⟩:∃x,x=wr:=⟨_,rfl⟩
        go_loopw [16] (fun i wx=>∃q:Nat,q<=mk/\i=.int .i64 q/\Aside (Below T.heap.size T wx)) (fun i _=>mk-(intOf i).toNat)
        case atStart=>exact⟨0,Nat.zero_le _,rfl,Below.refl _ _⟩
        case round=>
         obtain⟨q,hq,rfl,HB⟩:=hrel
         by_cases hlt2:q<mk
         ·have aV:(q:Int)<(mk:Int):=by omega
          obtain⟨o,D,A⟩:=ak.out
          obtain⟨u,x0,hu⟩:=ay.out.1 q (by rw[List.length_replicate];exact hlt2)
          rw[List.getElem_replicate] at hu
          rw[Nat.zero_add] at x0
          obtain⟨g3,c3,u3,cF,dv,y0,cB,dg⟩:=Qkf ay.out.2.1 ay.out.2.2 (QbI hu) q hlt2
          simp only[Value.slice.injEq,true_and] at cF
          obtain⟨rfl,rfl⟩:=cF
          have I:=Qaa A HB.out
          have K:=Qaa D I
          have s0:=cell_regrown (cK K bJ x0)
          have s1:=cell_regrown (cK I dv y0)
          have cA:=Qd8 u3 u cs
          have C1:∀d os,_:=fun d os=>Calls.regrown_of (cA (Sort.grow (redrawn wr d) os) (cB.below (Qaa I (below_regrown _ _ _))) (hu.below (Qaa K (below_regrown _ _ _))) dg)
          obtain⟨ua,uc,rfl,-⟩:=hu
          obtain⟨ub,ud,rfl,-⟩:=cB
          clear x0 y0 cA K I o D A
          generalize cs.length=cl at*
          go_wp2
          refine wp_region_quiet_below (by kernel_rfl) (by kernel_rfl) ?_
          repeat(any_goals(first|go_big_quiet_step (exact C1 _ _)|quiet_step (exact C1 _ _)))
          refine wpQuiet_nil ?_
          intro _ bP
          obtain⟨⟨dq,ax⟩,bo⟩:=bP
          subst bo
          have aL:Aside (Below T.heap.size T (Sort.grow (redrawn wr dq) ax)):=Qaa HB.out (below_regrown wr dq ax)
          clear s0 s1 C1
          generalize Sort.grow (redrawn wr dq) ax=W5 at*
          go_wp2
          go_roundw
          case rel=>exact⟨q+1,by omega,by go_num,aL⟩
          case measure=>simp[intOf];omega
         ·have aV:¬(q:Int)<(mk:Int):=by omega
          have aI:Below wa.heap.size wa wr:=Qaa ak.out.1 (Qaa ak.out.2.1 (Qaa ak.out.2.2 HB.out))
          have bh:=Hk aI
          clear aI
          go_wp2
          go_meet
          exact⟨Qaa HX.out.1 bh.out,HX.out.2.2.2.below bh.out bc,Nat.lt_of_lt_of_le bc bh.out.size⟩
      ·as_aux_lemma=>
        have aD:=Hk ba
        have J:=Hk (fun V F=>N.out V F no)
        obtain⟨ev,aE⟩:∃z,Qbp no=z:=⟨_,rfl⟩
        have b6:=Hk aE
        rw[aE] at J
        clear ba k1 aE
        go_wp2_with (first|(go_at_call 9;refine(aD.out _ (Below.refl _ _)).1.mono ?_;rintro e w2 ⟨B,o⟩;obtain rfl:=(B.resolve_right (fun h=>hno h.1)).2;have p0:=cK o (by omega) j0;have p1:=cK o (by omega) j1;have p2:=cK o (by omega) j2;have p3:=cK o (by omega) j3;have p4:=cK o (by omega) j4;have p5:=cK o (by omega) j5;have p6:=cK o (by omega) j6;have p7:=cK o (by omega) j7;have p8:=cK o (by omega) j8;have p9:=cK o (by omega) j9;have az:=cK o (by omega) ag;have aC:=cK o (by omega) ac;have aw:=cK o (by omega) ah;have aA:=cK o (by omega) ae;have aB:=cK o (by omega) ad)|(go_at_call 10;refine(aD.out _ o).2.mono ?_;rintro e w3 ⟨B,D⟩;obtain rfl:=(B.resolve_right (fun h=>hno h.1)).2;rw[b6.out];have E:=Qaa o D)|(go_at_call 11;refine(J.out _ E).mono ?_;rintro e T ⟨rfl,A⟩))
        have bF:=Hk (Qaa E A)
        clear j0 j1 j2 j3 j4 j5 j6 j7 j8 j9 ag ac ah ae ad p0 p1 p2 p3 p4 p5 p6 p7 p8 p9 az aC aw aA aB o D A E aD J
        obtain⟨wa,rfl⟩:∃x,x=wr:=⟨_,rfl⟩
        go_loopw [16] (fun i wx=>i=.int .i64 0/\wx=T) (fun _ _=>0)
        case atStart=>exact⟨rfl,rfl⟩
        case round=>
         obtain⟨rfl,rfl⟩:=hrel
         go_wp2
         go_meet
         exact⟨Qaa HX.out.1 bF.out,HX.out.2.2.2.below bF.out bc,Nat.lt_of_lt_of_le bc bF.out.size⟩
   case rest=>
    as_aux_lemma=>
     obtain⟨a4,y,dW⟩:=hcut.out
     obtain⟨no,am,bQ⟩:∃no am,DoBoth w va ts.length tcap j no am:=by
      rcases HH.out.2.2.2.2 with h|⟨tb,O,rfl,a9,aq⟩
      ·rw[h]
       exact⟨_,_,QgZ va tcap HI.out.1 (by have:=HI.out.2;omega)⟩
      ·rcases Nat.eq_zero_or_pos ts.length with h0|h0
       ·rw[h0]
        exact⟨_,_,QgZ _ tcap HI.out.1 (by have:=HI.out.2;omega)⟩
       ·exact Qk2 tcap HI.out.1 ⟨aq,a9,fun t ht=>⟨by have:=(HX.out.2.2.1 t ht).1;omega,(HX.out.2.2.1 t ht).2⟩,by omega⟩ h0 (by have:=HI.out.2;omega)
     have j0:wc.cell? ⟨w.heap.size,0,none⟩=some (.int .i64 j.at_):=y 0 _ rfl
     have j1:wc.cell? ⟨w.heap.size,1,none⟩=some (.int .i64 j.code):=y 1 _ rfl
     have j2:wc.cell? ⟨w.heap.size,2,none⟩=some (j.outs):=y 2 _ rfl
     have j3:wc.cell? ⟨w.heap.size,3,none⟩=some (j.ins):=y 3 _ rfl
     have j4:wc.cell? ⟨w.heap.size,4,none⟩=some (j.cols):=y 4 _ rfl
     have j5:wc.cell? ⟨w.heap.size,5,none⟩=some (.string j.op):=y 5 _ rfl
     have j6:wc.cell? ⟨w.heap.size,6,none⟩=some (.string j.left.1):=y 6 _ rfl
     have j7:wc.cell? ⟨w.heap.size,7,none⟩=some (.int .i64 j.left.2.1):=y 7 _ rfl
     have j8:wc.cell? ⟨w.heap.size,8,none⟩=some (.int .i64 j.left.2.2.1):=y 8 _ rfl
     have j9:wc.cell? ⟨w.heap.size,9,none⟩=some (.string j.left.2.2.2):=y 9 _ rfl
     have ag:wc.cell? ⟨w.heap.size,10,none⟩=some (.string j.right.1):=y 10 _ rfl
     have ac:wc.cell? ⟨w.heap.size,11,none⟩=some (.int .i64 j.right.2.1):=y 11 _ rfl
     have ah:wc.cell? ⟨w.heap.size,12,none⟩=some (.int .i64 j.right.2.2.1):=y 12 _ rfl
     have ae:wc.cell? ⟨w.heap.size,13,none⟩=some (.string j.right.2.2.2):=y 13 _ rfl
     have ad:wc.cell? ⟨w.heap.size,14,none⟩=some (.int .i64 j.retry):=y 14 _ rfl
     have cg:=fun V (F:Below wc.heap.size wc V)=>bQ.ref V (Qaa a4 F)
     have b4:=fun V (F:Below wc.heap.size wc V)=>bQ.ops V (Qaa a4 F)
     unfold Jb.cells at cg b4
     have bH:=Hk cg
     have bL:=Hk b4
     have N:=Hk (fun V (F:Below wc.heap.size wc V) n=>bM.out n V (Qaa a4 F))
     have cG:=Hk a4
     clear cg b4 bQ y hcut a4
     by_cases hno:no=0
     ·subst hno
      have aH:=fun V (F:Below wc.heap.size wc V)=>N.out V F 0
      rw[Qdp] at aH
      have J:=Hk aH
      clear aH
      go_wp2_with (first|(go_at_call 13;refine(bH.out _ (Below.refl _ _)).mono ?_;rintro e w2 ⟨B,o⟩;obtain⟨g,c,rfl,du,bJ,hH⟩:=B.resolve_left (fun h=>h.1 rfl)|>.2;have p0:=cK o (by omega) j0;have p1:=cK o (by omega) j1;have p2:=cK o (by omega) j2;have p3:=cK o (by omega) j3;have p4:=cK o (by omega) j4;have p5:=cK o (by omega) j5;have p6:=cK o (by omega) j6;have p7:=cK o (by omega) j7;have p8:=cK o (by omega) j8;have p9:=cK o (by omega) j9;have az:=cK o (by omega) ag;have aC:=cK o (by omega) ac;have aw:=cK o (by omega) ah;have aA:=cK o (by omega) ae;have aB:=cK o (by omega) ad)|(go_at_call 14;refine(bL.out _ o).mono ?_;rintro e w3 ⟨B,D⟩;obtain⟨g3,c3,rfl,dN,b9,cL,cd⟩:=B.resolve_left (fun h=>h.1 rfl)|>.2;have E:=Qaa o D)|(go_at_call 11;refine(J.out _ E).mono ?_;rintro e T ⟨rfl,A⟩))
      have ay:=Hk (Ai hH (Ai cL cd))
      have bT:=cd.1
      have ak:=Hk (Ai o (Ai D A))
      have bE:=Hk (Qaa cG.out (Qaa E A))
      clear j0 j1 j2 j3 j4 j5 j6 j7 j8 j9 ag ac ah ae ad p0 p1 p2 p3 p4 p5 p6 p7 p8 p9 az aC aw aA aB o D A E hH cL cd bH bL J
      obtain⟨n3,bZ⟩:∃z,am.length=z:=⟨_,rfl⟩
      have dD:=Hk bZ
      rw[bZ] at bT⊢
      clear bZ
      go_loopw [21] (fun i wx=>∃q:Nat,q<=n3/\i=.int .i64 q/\Aside (Below T.heap.size T wx)) (fun i _=>n3-(intOf i).toNat)
      case atStart=>exact⟨0,Nat.zero_le _,rfl,Below.refl _ _⟩
      case round=>
       obtain⟨q,hq,rfl,HB⟩:=hrel
       by_cases hlt2:q<n3
       ·have aV:(q:Int)<(n3:Int):=by omega
        have ci:q<am.length:=by have:=dD.out;omega
        obtain⟨o,D,A⟩:=ak.out
        obtain⟨vc,vr,x0,x1,hc,hr⟩:=ay.out.1 q ci
        obtain⟨cC,dc,y0,y1,cz,cQ0⟩:=ay.out.2.1 q ci
        obtain⟨l1,l2,l3⟩:=ay.out.2.2.2 _ (List.getElem_mem ci)
        have I:=Qaa A HB.out
        have K:=Qaa D I
        rw[Nat.zero_add] at x0 x1 y0 y1
        have s0:=cell_regrown (cK K bJ x0)
        have s1:=cell_regrown (cK K bJ x1)
        have s2:=cell_regrown (cK I b9 y0)
        have s3:=cell_regrown (cK I b9 y1)
        have C1:∀d os,_:=fun d os=>Calls.regrown_of (QhQ cC dc vc vr am[q].1 am[q].2 (Sort.grow (redrawn wr d) os) (cz.below (Qaa I (below_regrown _ _ _))) (cQ0.below (Qaa I (below_regrown _ _ _))) (hc.below (Qaa K (below_regrown _ _ _))) (hr.below (Qaa K (below_regrown _ _ _))) l1 l2 l3)
        obtain⟨ua,uc,rfl,-⟩:=hc
        obtain⟨ub,ud,rfl,-⟩:=cz
        obtain⟨ra,rc,rfl,-⟩:=hr
        obtain⟨rb,rd,rfl,-⟩:=cQ0
        clear x0 x1 y0 y1 K I o D A l1 l2 l3
        generalize am[q].1.length=cl at*
        generalize am[q].2.length=rl at*
        go_wp2
        refine wp_region_quiet_below (by kernel_rfl) (by kernel_rfl) ?_
        repeat(any_goals(first|go_big_quiet_step (exact C1 _ _)|quiet_step (exact C1 _ _)))
        refine wpQuiet_nil ?_
        intro _ bP
        obtain⟨⟨dq,ax⟩,bo⟩:=bP
        subst bo
        have aL:Aside (Below T.heap.size T (Sort.grow (redrawn wr dq) ax)):=Qaa HB.out (below_regrown wr dq ax)
        clear s0 s1 s2 s3 C1
        generalize Sort.grow (redrawn wr dq) ax=W5 at*
        go_wp2
        go_roundw
        case rel=>exact⟨q+1,by omega,by go_num,aL⟩
        case measure=>simp[intOf];omega
       ·have aV:¬(q:Int)<(n3:Int):=by omega
        go_wp2
        go_ret
        exact⟨rfl,Qaa bE.out HB.out⟩
     ·have J:=Hk (fun V F=>N.out V F no)
      obtain⟨ev,aE⟩:∃z,Qbp no=z:=⟨_,rfl⟩
      have b6:=Hk aE
      rw[aE] at J
      clear aE
      go_wp2_with (first|(go_at_call 13;refine(bH.out _ (Below.refl _ _)).mono ?_;rintro e w2 ⟨B,o⟩;obtain rfl:=(B.resolve_right (fun h=>hno h.1)).2;have p0:=cK o (by omega) j0;have p1:=cK o (by omega) j1;have p2:=cK o (by omega) j2;have p3:=cK o (by omega) j3;have p4:=cK o (by omega) j4;have p5:=cK o (by omega) j5;have p6:=cK o (by omega) j6;have p7:=cK o (by omega) j7;have p8:=cK o (by omega) j8;have p9:=cK o (by omega) j9;have az:=cK o (by omega) ag;have aC:=cK o (by omega) ac;have aw:=cK o (by omega) ah;have aA:=cK o (by omega) ae;have aB:=cK o (by omega) ad)|(go_at_call 14;refine(bL.out _ o).mono ?_;rintro e w3 ⟨B,D⟩;obtain rfl:=(B.resolve_right (fun h=>hno h.1)).2;rw[b6.out];have E:=Qaa o D)|(go_at_call 11;refine(J.out _ E).mono ?_;rintro e T ⟨rfl,A⟩))
      have bE:=Hk (Qaa cG.out (Qaa E A))
      clear j0 j1 j2 j3 j4 j5 j6 j7 j8 j9 ag ac ah ae ad p0 p1 p2 p3 p4 p5 p6 p7 p8 p9 az aC aw aA aB o D A E bH bL J
      go_loopw [21] (fun i wx=>i=.int .i64 0/\wx=T) (fun _ _=>0)
      case atStart=>exact⟨rfl,rfl⟩
      case round=>
       obtain⟨rfl,rfl⟩:=hrel
       go_wp2
       go_ret
       exact⟨rfl,bE.out⟩
end Go.Proofs.YtofidnijfnhpaaaGreatDoor
