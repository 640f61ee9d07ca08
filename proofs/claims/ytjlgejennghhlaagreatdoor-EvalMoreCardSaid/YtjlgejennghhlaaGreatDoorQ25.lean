import Derived.Test.YtjlgejennghhlaaGreatDoorQ01
import Derived.Test.YtjlgejennghhlaaGreatDoorQ11
set_option linter.unusedSimpArgs false
set_option linter.unusedVariables false
set_option linter.unusedSectionVars false
set_option maxRecDepth 1000000
set_option maxHeartbeats 16000000
namespace Go.Proofs.YtjlgejennghhlaaGreatDoor
open Go.RowKit
theorem QiR (tb U tcap:Nat) (ts:List Tb) (j:Jb) (w:World) (ht:QaX w tb U ts) (al:tb<w.heap.size) (hl:ts.length<=100) (ay:0<ts.length) (Z:∀t∈ts,Qae t.1 t.2=true)
 (cs:List Cl) (mk:Nat) (n:Int) (hn:n≠0)
 (O:∀W B g ai us,Below w.heap.size w W->W.ownsRow B 51 1 (.slice (some ⟨g,0,none⟩) ts.length ai) ts.length us->QaE W us (ts.map (·.1))->Calls Tryz.prog 59 #[.agg j.cells,.slice (some ⟨g,0,none⟩) ts.length ai] W fun e w'=>∃v us,e=.returned (.tuple #[v,.nilIface])/\w'.ownsRow W.heap.size 51 1 v mk us/\Qbj w' W.heap.size us cs/\Below W.heap.size W w')
 (K:∀W,Below w.heap.size w W->Calls Tryz.prog 102 #[.agg j.cells,.slice (some ⟨tb,U,none⟩) ts.length tcap] W fun e w'=>e=.returned (.tuple #[.slice none 0 0,.slice none 0 0,QbK n])/\Below W.heap.size W w'):
 Calls Tryz.prog 61 #[.agg j.cells,.slice (some ⟨tb,U,none⟩) ts.length tcap] w fun e w'=>e=.returned (.tuple #[.slice none 0 0,QbK n])/\Below w.heap.size w w':=by
 obtain⟨i0,hi,aC,aW,aO⟩:=info_parts Tryz.infoCols;have HG:=Hk Z;have HT:=Hk ht;rw[QaS hn] at K⊢;unfold Jb.cells at O K;have ab:=Hk O;have ac:=Hk K;clear O K;clear Z ht;have ae:=Qce w j 50;unfold Jb.cells at ae⊢;have ak:=Hk ae;clear ae;go_enter Tryz.func61,Tryz.ntmps61;go_wp2;refine Qdc (G:=fun w=>Code.wp _ _ _ _ w) (fun M=>QaC M w.heap.size j/\Below w.heap.size w M/\w.heap.size<M.heap.size) _ ⟨ak.out,Qaa _ _,by simp⟩ ?_;clear ak;intro M ⟨F,ap,aG⟩;have HJ:=Hk (Ai F ap);clear F ap;go_loopw [6,16] (fun l i wr=>∃(k:Nat) (us:List Value),k<=ts.length/\i=.int .i64 k/\wr.ownsRow M.heap.size 51 1 l k us/\QaE w us ((ts.take k).map (·.1))/\Below M.heap.size M wr) (fun _ i _=>ts.length-(intOf i).toNat)
 case atStart=>exact⟨0,[],Nat.zero_le _,rfl,World.ownsRow_nil _ _ _ _,⟨rfl,fun j hj=>absurd hj (by simp)⟩,Below.refl _ _⟩
 case round=>
  obtain⟨k,us,hk,rfl,J,H,N⟩:=hrel;obtain⟨la,lc,rfl⟩:=own_slice J;have I:Below w.heap.size w wr:=HJ.out.2.trans (N.mono HJ.out.2.size);have bH:=N.size;have HO:=Hk (Ai J (Ai H (Ai N I)))
  by_cases hlt:k<ts.length
  ·obtain⟨vc,vr,c0,c1,hc,hr⟩:=HT.out k hlt;have d0:=cK I al c0;have d1:=cK I al c1;have af:=fun W (hW:Below wr.heap.size wr W)=>right_any vc vr ts[k].1 ts[k].2 W ((hc.below I).below hW) ((hr.below I).below hW)
   have aQ:=Hk hc;obtain⟨ca,cc,rfl,-⟩:=hc;obtain⟨ra,rc,rfl,-⟩:=hr;have g:=HG.out _ (List.getElem_mem hlt);simp only[g] at af;have aD:=Hk af;clear af c0 c1 J H I N g;have ah:(ts.take (k+1)).map (·.1)=(ts.take k).map (·.1)++[ts[k].1]:=by rw[List.take_succ_eq_append_getElem hlt,List.map_append];rfl
   have HM:=Hk ah;clear ah;generalize aU:ts[k].1=q1 at*;clear aU;generalize aZ:ts[k].2.length=n2 at*;clear aZ;go_wp2_with (first|(go_at_call 13;refine(aD.out _ (Qaa _ _)).mono ?_;rintro e w1 ⟨rfl,V⟩;obtain⟨a3,a2⟩:=QaP V;have bz:wr.heap.size<w1.heap.size:=by(have:=V.size;simp at this;omega))|(at_builtin;refine wpList_append_own _ rfl _ _ 123 rfl M.heap.size 51 i0 (.slice none 0 0) 1 24 Tryz.underlying123 hi aC aW aO rfl (by decide) _ _ _ rfl ((owns_below (HO.out.1.alloc _) V).alloc _) ⟨w1.heap.size,0,none⟩ 1 1 [.slice ca q1.length cc] rfl rfl (news1 _ _ _ _ rfl) (Qc2 _ _ _) ?c3 ?c4 ?c5 ?_))
   case c3=>unfold maxLen;omega
   case c4=>omega
   case c5=>have:=V.size;simp at this⊢;omega
   intro v' w5 ad aa _;obtain⟨p1,p2,p3,p4⟩:=HO.out;have aj:Below M.heap.size M w5:=((bel_then (bel_box p3 _) V).alloc (by omega) _).grown aa (by simp;omega) (fun q hq=>(p1.lt q hq).1);have aq:QaE w (us++[.slice ca q1.length cc]) ((ts.take (k+1)).map (·.1)):=by
    rw[HM.out];exact p2.snoc aQ.out
   have HF:=Hk (Ai ad (Ai aq aj));clear ad aa aj a3 a2 p1 p2 p3 p4 aq;go_wp2;go_roundw
   case rel=>exact⟨k+1,_,by omega,by go_num,HF.out.1,HF.out.2.1,HF.out.2.2⟩
   case measure=>simp[intOf];omega
  ·have aI:k=ts.length:=by omega
   subst aI;simp only[List.take_length] at H;obtain⟨g,ai,am,bJ⟩:=QdT (css:=ts.map (·.1)) (by simpa using J) (by simpa using ay);simp only[List.length_map,Value.slice.injEq,true_and] at am;obtain⟨rfl,rfl⟩:=am;have HC:=Hk (ab.out wr M.heap.size g lc us I J (H.below I));have F:=HJ.out.1.below N aG;have j0:wr.cell? ⟨w.heap.size,0,none⟩=some (.int .i64 j.at_):=F 0 _ rfl;have j1:wr.cell? ⟨w.heap.size,1,none⟩=some (.int .i64 j.code):=F 1 _ rfl;have j2:wr.cell? ⟨w.heap.size,2,none⟩=some j.outs:=F 2 _ rfl;have j3:wr.cell? ⟨w.heap.size,3,none⟩=some j.ins:=F 3 _ rfl;have j4:wr.cell? ⟨w.heap.size,4,none⟩=some j.cols:=F 4 _ rfl;have j5:wr.cell? ⟨w.heap.size,5,none⟩=some (.string j.op):=F 5 _ rfl;have j6:wr.cell? ⟨w.heap.size,6,none⟩=some (.string j.left.1):=F 6 _ rfl;have j7:wr.cell? ⟨w.heap.size,7,none⟩=some (.int .i64 j.left.2.1):=F 7 _ rfl;have j8:wr.cell? ⟨w.heap.size,8,none⟩=some (.int .i64 j.left.2.2.1):=F 8 _ rfl;have j9:wr.cell? ⟨w.heap.size,9,none⟩=some (.string j.left.2.2.2):=F 9 _ rfl;have aF:wr.cell? ⟨w.heap.size,10,none⟩=some (.string j.right.1):=F 10 _ rfl;have aS:wr.cell? ⟨w.heap.size,11,none⟩=some (.int .i64 j.right.2.1):=F 11 _ rfl;have aJ:wr.cell? ⟨w.heap.size,12,none⟩=some (.int .i64 j.right.2.2.1):=F 12 _ rfl;have a0:wr.cell? ⟨w.heap.size,13,none⟩=some (.string j.right.2.2.2):=F 13 _ rfl;have aK:wr.cell? ⟨w.heap.size,14,none⟩=some (.int .i64 j.retry):=F 14 _ rfl;have D:=Hk F;have y:=F.lt;clear F J H I N ab;go_wp2_with (go_at_call 59;refine HC.out.mono ?_;rintro e w2 ⟨vv,uu,rfl,aL,bI,h⟩;obtain⟨bG,bF,rfl⟩:=own_slice aL;have k0:=((D.out.below h y) 0 (.int .i64 j.at_) rfl);have k1:=((D.out.below h y) 1 (.int .i64 j.code) rfl);have k2:=((D.out.below h y) 2 j.outs rfl);have k3:=((D.out.below h y) 3 j.ins rfl);have k4:=((D.out.below h y) 4 j.cols rfl);have k5:=((D.out.below h y) 5 (.string j.op) rfl);have k6:=((D.out.below h y) 6 (.string j.left.1) rfl);have k7:=((D.out.below h y) 7 (.int .i64 j.left.2.1) rfl);have k8:=((D.out.below h y) 8 (.int .i64 j.left.2.2.1) rfl);have k9:=((D.out.below h y) 9 (.string j.left.2.2.2) rfl);have aN:=((D.out.below h y) 10 (.string j.right.1) rfl);have aP:=((D.out.below h y) 11 (.int .i64 j.right.2.1) rfl);have a1:=((D.out.below h y) 12 (.int .i64 j.right.2.2.1) rfl);have aR:=((D.out.below h y) 13 (.string j.right.2.2.2) rfl);have aE:=((D.out.below h y) 14 (.int .i64 j.retry) rfl));have ag:=bel_then HO.out.2.2.2 h;have ao:=Hk (ac.out w2 ag);refine ao.out.mono ?_;rintro e w3 ⟨rfl,aM⟩;have ar:=bel_then ag aM;have HZ:=Hk ar;clear j0 j1 j2 j3 j4 j5 j6 j7 j8 j9 aF aS aJ a0 aK k0 k1 k2 k3 k4 k5 k6 k7 k8 k9 aN aP a1 aR aE ao ac;go_wp2
   go_ret2
   exact⟨rfl,HZ.out⟩
end Go.Proofs.YtjlgejennghhlaaGreatDoor
