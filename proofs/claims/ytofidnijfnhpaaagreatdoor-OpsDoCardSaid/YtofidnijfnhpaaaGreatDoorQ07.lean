import Derived.Test.YtofidnijfnhpaaaGreatDoorQ01
import Derived.Test.YtofidnijfnhpaaaGreatDoorQ06
set_option linter.unusedSimpArgs false
set_option linter.unusedVariables false
set_option linter.unusedSectionVars false
set_option maxRecDepth 1000000
set_option maxHeartbeats 16000000
namespace Go.Proofs.YtofidnijfnhpaaaGreatDoor
open Go.RowKit
theorem QbH {G:World->Prop} (F:World->Prop) (w0:World) (h:F w0) (k:∀w,F w->G w):G w0:=k w0 h
theorem Qbd (w:World) (j:Jb) (t:TypeId):Qaz (w.alloc (.cells j.cells t)) w.heap.size j:=fun k v hk=>by rw[World.cell?_alloc_at _ _ _ _ rfl];exact hk
theorem Qks (w:World) (a b:Value) (e:TypeId) (B H:Nat) (j:B<=w.heap.size) (h:w.heap.size=H):(w.alloc (.cells #[a,b] e)).ownsRow B e 2 (.slice (some ⟨H,0,none⟩) 1 1) 1 [a,b]:=by
 subst h
 exact⟨by simp,Or.inr ⟨w.heap.size,1,#[a,b],rfl,j,by show(w.heap.push _)[w.heap.size]? =_;simp,Nat.le_refl _,by unfold maxLen;omega,by simp,by simp⟩⟩
theorem Qci {w:World} {B:Nat} {v:Value} {us:List Value} {css:List (List Cl)} (o:w.ownsRow B 33 1 v css.length us) (z:0<css.length):∃g c,v=.slice (some ⟨g,0,none⟩) css.length c/\B<=g:=by
 obtain⟨-,⟨rfl,q⟩|⟨g,h,y,rfl,j,A,q,D,_,_⟩⟩:=o
 ·omega
 ·exact⟨g,h,rfl,j⟩
def Qby (w:World) (B:Nat) (v:Value) (cs:List Cl):Prop:=w.ownsRow B 56 2 v cs.length (Qap cs)/\∀x∈cs,x.1.size<=maxLen
def Qbq (w:World) (B:Nat) (v:Value) (rs:List (List Vl)):Prop:=∃us,w.ownsRow B 57 1 v rs.length us/\Qac w B us rs
theorem Qby.is {w:World} {B:Nat} {v:Value} {cs:List Cl} (h:Qby w B v cs):Qav w v cs:=Qbx h.1 h.2
theorem Qbq.is {w:World} {B:Nat} {v:Value} {rs:List (List Vl)} (h:Qbq w B v rs):QaC w v rs:=by obtain⟨us,j,o⟩:=h;exact QbA j o
theorem Qby.below {w j:World} {B:Nat} {v:Value} {cs:List Cl} (h:Qby w B v cs) (o:Below w.heap.size w j):Qby j B v cs:=⟨Qaf h.1 o,h.2⟩
theorem Qbq.below {w o:World} {B:Nat} {v:Value} {rs:List (List Vl)} (h:Qbq w B v rs) (j:Below w.heap.size w o):Qbq o B v rs:=by obtain⟨us,q,y⟩:=h;exact⟨us,Qaf q j,y.below j⟩
theorem Qby.set {w:World} {B R o:Nat} {v x:Value} {cs:List Cl} (h:Qby w B v cs) (j:R<B):Qby (w.setCell ⟨R,o,none⟩ x) B v cs:=⟨ownsRow_setCell_below h.1 j _,h.2⟩
theorem Qbq.set {w:World} {B R o:Nat} {v x:Value} {rs:List (List Vl)} (h:Qbq w B v rs) (j:R<B):Qbq (w.setCell ⟨R,o,none⟩ x) B v rs:=by obtain⟨us,q,y⟩:=h;exact⟨us,ownsRow_setCell_below q j _,y.set j⟩
theorem Qby.mono {w:World} {B j:Nat} {v:Value} {cs:List Cl} (h:Qby w B v cs) (o:j<=B):Qby w j v cs:=⟨Qam o h.1,h.2⟩
theorem Qbq.mono {w:World} {B o:Nat} {v:Value} {rs:List (List Vl)} (h:Qbq w B v rs) (j:o<=B):Qbq w o v rs:=by obtain⟨us,q,y⟩:=h;exact⟨us,Qam j q,y.mono j⟩
def QbR (w:World) (B g:Nat) (ts:List Tb):Prop:=∀(j:Nat) (h:j<ts.length),∃vc vr,w.cell? ⟨g,0+j*2,none⟩=some vc/\w.cell? ⟨g,0+j*2+1,none⟩=some vr/\Qby w B vc ts[j].1/\Qbq w B vr ts[j].2
theorem Qjd {w:World} {B n:Nat} {v:Value} {us:List Value} {e:TypeId} (h:w.ownsRow B e 1 v n us) (D:0<n):∃g y us',v=.slice (some ⟨g,0,none⟩) n (match v with |.slice _ _ c=>c|_=>0)/\us=y::us'/\g<w.heap.size/\w.cell? ⟨g,0,none⟩=some y:=by
 have h':=h
 obtain⟨j,⟨rfl,q⟩|⟨g,z,A,rfl,F,I,q,E,_,_⟩⟩:=h
 ·omega
 ·cases us with
  |nil=>simp at j;omega
  |cons y r=>
   have o:=h'.cellAt 0 (by omega)
   exact⟨g,y,r,rfl,rfl,(h'.lt g rfl).2,by rw[o];rfl⟩
theorem Qew {w:World} {B n g c:Nat} {us:List Value} {e:TypeId} (h:w.ownsRow B e 1 (.slice (some ⟨g,0,none⟩) n c) n us) (k:Nat) (y:Value) (q:k<n) (j:us[k]? =some y):w.cell? ⟨g,k,none⟩=some y:=by
 have o:=h.cellAt k (by omega)
 rw[o,j]
theorem QaY {w:World} {B n z:Nat} {v:Value} {us:List Value} {e:TypeId} (h:w.ownsRow B e z v n us) (F:0<n):∃g c,v=.slice (some ⟨g,0,none⟩) n c/\B<=g/\g<w.heap.size/\∀k y,us[k]? =some y->w.cell? ⟨g,0+k,none⟩=some y:=by
 have h':=h
 obtain⟨J,⟨rfl,A⟩|⟨g,j,D,rfl,o,K,A,I,_,_⟩⟩:=h
 ·omega
 ·refine⟨g,j,rfl,o,(h'.lt g rfl).2,fun k y hk=>?_⟩
  have E:k<us.length:=(List.getElem?_eq_some_iff.1 hk).1
  have q:=h'.cellAt k (by omega)
  rw[Nat.zero_add,q,hk]
theorem QhU (tb N tcap:Nat) (ts:List Tb) (j:Jb) (w:World) (ht:Qa0 w tb N ts) (ad:tb<w.heap.size) (hl:ts.length<=100) (aB:0<ts.length) (I:∀t∈ts,Qan t.1 t.2=true)
 (n:Int) (hn:n≠0)
 (A:∀W B g U us,Below w.heap.size w W->W.ownsRow B 33 1 (.slice (some ⟨g,0,none⟩) ts.length U) ts.length us->QaA W us (ts.map (·.1))->Calls Tryz.prog 10 #[.agg j.cells,.slice (some ⟨g,0,none⟩) ts.length U] W fun e w'=>e=.returned (.tuple #[.slice none 0 0,Qbp n])/\Below W.heap.size W w'):
 Calls Tryz.prog 14 #[.agg j.cells,.slice (some ⟨tb,N,none⟩) ts.length tcap] w fun e w'=>e=.returned (.tuple #[.slice none 0 0,Qbp n])/\Below w.heap.size w w':=by
 obtain⟨i0,hi,aI,al,ap⟩:=info_parts Tryz.infoCols
 have HG:=Hk I
 have HT:=Hk ht
 rw[Qa1 hn] at A⊢
 unfold Jb.cells at A
 have K:=Hk A
 clear A
 clear I ht
 have Z:=Qbd w j 28
 unfold Jb.cells at Z⊢
 have af:=Hk Z
 clear Z
 go_enter Tryz.func14,Tryz.ntmps14
 go_wp2
 refine QbH (G:=fun w=>Code.wp _ _ _ _ w) (fun D=>Qaz D w.heap.size j/\Below w.heap.size w D/\w.heap.size<D.heap.size) _ ⟨af.out,Qab _ _,by simp⟩ ?_
 clear af
 intro D ⟨h,ab,ar⟩
 have HJ:=Hk (Ai h ab)
 clear h ab
 go_loopw [6,16] (fun l i wr=>∃(k:Nat) (us:List Value),k<=ts.length/\i=.int .i64 k/\wr.ownsRow D.heap.size 33 1 l k us/\QaA w us ((ts.take k).map (·.1))/\Below D.heap.size D wr) (fun _ i _=>ts.length-(intOf i).toNat)
 case atStart=>exact⟨0,[],Nat.zero_le _,rfl,World.ownsRow_nil _ _ _ _,⟨rfl,fun j hj=>absurd hj (by simp)⟩,Below.refl _ _⟩
 case round=>
  obtain⟨k,us,hk,rfl,z,o,E⟩:=hrel
  obtain⟨la,lc,rfl⟩:=Qae z
  have y:Below w.heap.size w wr:=HJ.out.2.trans (E.mono HJ.out.2.size)
  have a6:=E.size
  have HO:=Hk (Ai z (Ai o (Ai E y)))
  by_cases hlt:k<ts.length
  ·obtain⟨vc,vr,c0,c1,hc,hr⟩:=HT.out k hlt
   have d0:=cK y ad c0
   have d1:=cK y ad c1
   have O:=fun W (hW:Below wr.heap.size wr W)=>Qcr vc vr ts[k].1 ts[k].2 W ((hc.below y).below hW) ((hr.below y).below hW)
   have ay:=Hk hc
   obtain⟨ca,cc,rfl,-⟩:=hc
   obtain⟨ra,rc,rfl,-⟩:=hr
   have g:=HG.out _ (List.getElem_mem hlt)
   simp only[g] at O
   have ao:=Hk O
   clear O c0 c1 z o y E g
   have V:(ts.take (k+1)).map (·.1)=(ts.take k).map (·.1)++[ts[k].1]:=by rw[List.take_succ_eq_append_getElem hlt,List.map_append];rfl
   have HM:=Hk V
   clear V
   generalize aw:ts[k].1=q1 at*
   clear aw
   generalize ak:ts[k].2.length=n2 at*
   clear ak
   go_wp2_with (first|(go_at_call 39;refine(ao.out _ (Qab _ _)).mono ?_;rintro e w1 ⟨rfl,F⟩;obtain⟨aA,av⟩:=QbM F;have aS:wr.heap.size<w1.heap.size:=by(have:=F.size;simp at this;omega))|(at_builtin;refine wpList_append_own _ rfl _ _ 31 rfl D.heap.size 33 i0 (.slice none 0 0) 1 24 Tryz.underlying31 hi aI al ap rfl (by decide) _ _ _ rfl ((Qaf (HO.out.1.alloc _) F).alloc _) ⟨w1.heap.size,0,none⟩ 1 1 [.slice ca q1.length cc] rfl rfl (QbG _ _ _ _ rfl) (QbZ _ _ _) ?c3 ?c4 ?c5 ?_))
   case c3=>unfold maxLen;omega
   case c4=>omega
   case c5=>have:=F.size;simp at this⊢;omega
   intro v' w5 J M _
   obtain⟨p1,p2,p3,p4⟩:=HO.out
   have T:Below D.heap.size D w5:=((Qaa (Qad p3 _) F).alloc (by omega) _).grown M (by simp;omega) (fun q hq=>(p1.lt q hq).1)
   have ac:QaA w (us++[.slice ca q1.length cc]) ((ts.take (k+1)).map (·.1)):=by
    rw[HM.out]
    exact p2.snoc ay.out
   have HF:=Hk (Ai J (Ai ac T))
   clear J M T aA av p1 p2 p3 p4 ac
   go_wp2
   go_roundw
   case rel=>exact⟨k+1,_,by omega,by go_num,HF.out.1,HF.out.2.1,HF.out.2.2⟩
   case measure=>simp[intOf];omega
  ·have aq:k=ts.length:=by omega
   subst aq
   simp only[List.take_length] at o
   obtain⟨g,U,ae,aY⟩:=Qci (css:=ts.map (·.1)) (by simpa using z) (by simpa using aB)
   simp only[List.length_map,Value.slice.injEq,true_and] at ae
   obtain⟨rfl,rfl⟩:=ae
   have HC:=Hk (K.out wr D.heap.size g lc us y z (o.below y))
   have h:=HJ.out.1.below E ar
   have j0:wr.cell? ⟨w.heap.size,0,none⟩=some (.int .i64 j.at_):=h 0 _ rfl
   have j1:wr.cell? ⟨w.heap.size,1,none⟩=some (.int .i64 j.code):=h 1 _ rfl
   have j2:wr.cell? ⟨w.heap.size,2,none⟩=some j.outs:=h 2 _ rfl
   have j3:wr.cell? ⟨w.heap.size,3,none⟩=some j.ins:=h 3 _ rfl
   have j4:wr.cell? ⟨w.heap.size,4,none⟩=some j.cols:=h 4 _ rfl
   have j5:wr.cell? ⟨w.heap.size,5,none⟩=some (.string j.op):=h 5 _ rfl
   have j6:wr.cell? ⟨w.heap.size,6,none⟩=some (.string j.left.1):=h 6 _ rfl
   have j7:wr.cell? ⟨w.heap.size,7,none⟩=some (.int .i64 j.left.2.1):=h 7 _ rfl
   have j8:wr.cell? ⟨w.heap.size,8,none⟩=some (.int .i64 j.left.2.2.1):=h 8 _ rfl
   have j9:wr.cell? ⟨w.heap.size,9,none⟩=some (.string j.left.2.2.2):=h 9 _ rfl
   have a5:wr.cell? ⟨w.heap.size,10,none⟩=some (.string j.right.1):=h 10 _ rfl
   have aX:wr.cell? ⟨w.heap.size,11,none⟩=some (.int .i64 j.right.2.1):=h 11 _ rfl
   have a8:wr.cell? ⟨w.heap.size,12,none⟩=some (.int .i64 j.right.2.2.1):=h 12 _ rfl
   have a4:wr.cell? ⟨w.heap.size,13,none⟩=some (.string j.right.2.2.2):=h 13 _ rfl
   have aZ:wr.cell? ⟨w.heap.size,14,none⟩=some (.int .i64 j.retry):=h 14 _ rfl
   have a7:=Hk h
   have a9:=h.lt
   clear h z o y E K
   go_wp2_with (go_at_call 10;refine HC.out.mono ?_;rintro e w2 ⟨rfl,ax⟩)
   go_ret2
   exact⟨rfl,Qaa HO.out.2.2.2 ax⟩
theorem Qlv (tb N tcap:Nat) (ts:List Tb) (j:Jb) (w:World) (ht:Qa0 w tb N ts) (am:tb<w.heap.size) (hl:ts.length<=100) (aU:0<ts.length) (O:∀t∈ts,Qan t.1 t.2=true)
 (cs:List Cl) (mk:Nat) (Z ar:List (List Vl)) (bb:60<Z.length)
 (K:∀W B g af us,Below w.heap.size w W->W.ownsRow B 33 1 (.slice (some ⟨g,0,none⟩) ts.length af) ts.length us->QaA W us (ts.map (·.1))->Calls Tryz.prog 10 #[.agg j.cells,.slice (some ⟨g,0,none⟩) ts.length af] W fun e w'=>∃v us,e=.returned (.tuple #[v,.nilIface])/\w'.ownsRow W.heap.size 33 1 v mk us/\Qbi w' W.heap.size us cs/\Below W.heap.size W w')
 (J:∀W,Below w.heap.size w W->Calls Tryz.prog 40 #[.agg j.cells,.slice (some ⟨tb,N,none⟩) ts.length tcap] W fun e w'=>∃v1 v2 aj ai,e=.returned (.tuple #[v1,v2,.nilIface])/\w'.ownsRow W.heap.size 57 1 v1 Z.length aj/\Qac w' W.heap.size aj Z/\w'.ownsRow W.heap.size 57 1 v2 ar.length ai/\Qac w' W.heap.size ai ar/\Below W.heap.size W w'):
 Calls Tryz.prog 14 #[.agg j.cells,.slice (some ⟨tb,N,none⟩) ts.length tcap] w fun e w'=>e=.returned (.tuple #[.slice none 0 0,Qbp 12])/\Below w.heap.size w w':=by
 obtain⟨i0,hi,a9,aC,aG⟩:=info_parts Tryz.infoCols
 have HG:=Hk O
 have HT:=Hk ht
 unfold Jb.cells at K J
 have U:=Hk K
 have aa:=Hk J
 clear K J
 clear O ht
 have ah:=Qbd w j 28
 unfold Jb.cells at ah⊢
 have aq:=Hk ah
 clear ah
 go_enter Tryz.func14,Tryz.ntmps14
 go_wp2
 refine QbH (G:=fun w=>Code.wp _ _ _ _ w) (fun F=>Qaz F w.heap.size j/\Below w.heap.size w F/\w.heap.size<F.heap.size) _ ⟨aq.out,Qab _ _,by simp⟩ ?_
 clear aq
 intro F ⟨z,ak,aI⟩
 have HJ:=Hk (Ai z ak)
 clear z ak
 go_loopw [6,16] (fun l i wr=>∃(k:Nat) (us:List Value),k<=ts.length/\i=.int .i64 k/\wr.ownsRow F.heap.size 33 1 l k us/\QaA w us ((ts.take k).map (·.1))/\Below F.heap.size F wr) (fun _ i _=>ts.length-(intOf i).toNat)
 case atStart=>exact⟨0,[],Nat.zero_le _,rfl,World.ownsRow_nil _ _ _ _,⟨rfl,fun j hj=>absurd hj (by simp)⟩,Below.refl _ _⟩
 case round=>
  obtain⟨k,us,hk,rfl,E,A,I⟩:=hrel
  obtain⟨la,lc,rfl⟩:=Qae E
  have D:Below w.heap.size w wr:=HJ.out.2.trans (I.mono HJ.out.2.size)
  have bU:=I.size
  have HO:=Hk (Ai E (Ai A (Ai I D)))
  by_cases hlt:k<ts.length
  ·obtain⟨vc,vr,c0,c1,hc,hr⟩:=HT.out k hlt
   have d0:=cK D am c0
   have d1:=cK D am c1
   have ac:=fun W (hW:Below wr.heap.size wr W)=>Qcr vc vr ts[k].1 ts[k].2 W ((hc.below D).below hW) ((hr.below D).below hW)
   have aO:=Hk hc
   obtain⟨ca,cc,rfl,-⟩:=hc
   obtain⟨ra,rc,rfl,-⟩:=hr
   have g:=HG.out _ (List.getElem_mem hlt)
   simp only[g] at ac
   have aE:=Hk ac
   clear ac c0 c1 E A D I g
   have ag:(ts.take (k+1)).map (·.1)=(ts.take k).map (·.1)++[ts[k].1]:=by rw[List.take_succ_eq_append_getElem hlt,List.map_append];rfl
   have HM:=Hk ag
   clear ag
   generalize aL:ts[k].1=q1 at*
   clear aL
   generalize aB:ts[k].2.length=n2 at*
   clear aB
   go_wp2_with (first|(go_at_call 39;refine(aE.out _ (Qab _ _)).mono ?_;rintro e w1 ⟨rfl,M⟩;obtain⟨aT,aK⟩:=QbM M;have bF:wr.heap.size<w1.heap.size:=by(have:=M.size;simp at this;omega))|(at_builtin;refine wpList_append_own _ rfl _ _ 31 rfl F.heap.size 33 i0 (.slice none 0 0) 1 24 Tryz.underlying31 hi a9 aC aG rfl (by decide) _ _ _ rfl ((Qaf (HO.out.1.alloc _) M).alloc _) ⟨w1.heap.size,0,none⟩ 1 1 [.slice ca q1.length cc] rfl rfl (QbG _ _ _ _ rfl) (QbZ _ _ _) ?c3 ?c4 ?c5 ?_))
   case c3=>unfold maxLen;omega
   case c4=>omega
   case c5=>have:=M.size;simp at this⊢;omega
   intro v' w5 T V _
   obtain⟨p1,p2,p3,p4⟩:=HO.out
   have ae:Below F.heap.size F w5:=((Qaa (Qad p3 _) M).alloc (by omega) _).grown V (by simp;omega) (fun q hq=>(p1.lt q hq).1)
   have al:QaA w (us++[.slice ca q1.length cc]) ((ts.take (k+1)).map (·.1)):=by
    rw[HM.out]
    exact p2.snoc aO.out
   have HF:=Hk (Ai T (Ai al ae))
   clear T V ae aT aK p1 p2 p3 p4 al
   go_wp2
   go_roundw
   case rel=>exact⟨k+1,_,by omega,by go_num,HF.out.1,HF.out.2.1,HF.out.2.2⟩
   case measure=>simp[intOf];omega
  ·have aH:k=ts.length:=by omega
   subst aH
   simp only[List.take_length] at A
   obtain⟨g,af,ap,bO⟩:=Qci (css:=ts.map (·.1)) (by simpa using E) (by simpa using aU)
   simp only[List.length_map,Value.slice.injEq,true_and] at ap
   obtain⟨rfl,rfl⟩:=ap
   have HC:=Hk (U.out wr F.heap.size g lc us D E (A.below D))
   have z:=HJ.out.1.below I aI
   have j0:wr.cell? ⟨w.heap.size,0,none⟩=some (.int .i64 j.at_):=z 0 _ rfl
   have j1:wr.cell? ⟨w.heap.size,1,none⟩=some (.int .i64 j.code):=z 1 _ rfl
   have j2:wr.cell? ⟨w.heap.size,2,none⟩=some j.outs:=z 2 _ rfl
   have j3:wr.cell? ⟨w.heap.size,3,none⟩=some j.ins:=z 3 _ rfl
   have j4:wr.cell? ⟨w.heap.size,4,none⟩=some j.cols:=z 4 _ rfl
   have j5:wr.cell? ⟨w.heap.size,5,none⟩=some (.string j.op):=z 5 _ rfl
   have j6:wr.cell? ⟨w.heap.size,6,none⟩=some (.string j.left.1):=z 6 _ rfl
   have j7:wr.cell? ⟨w.heap.size,7,none⟩=some (.int .i64 j.left.2.1):=z 7 _ rfl
   have j8:wr.cell? ⟨w.heap.size,8,none⟩=some (.int .i64 j.left.2.2.1):=z 8 _ rfl
   have j9:wr.cell? ⟨w.heap.size,9,none⟩=some (.string j.left.2.2.2):=z 9 _ rfl
   have aR:wr.cell? ⟨w.heap.size,10,none⟩=some (.string j.right.1):=z 10 _ rfl
   have az:wr.cell? ⟨w.heap.size,11,none⟩=some (.int .i64 j.right.2.1):=z 11 _ rfl
   have aX:wr.cell? ⟨w.heap.size,12,none⟩=some (.int .i64 j.right.2.2.1):=z 12 _ rfl
   have aQ:wr.cell? ⟨w.heap.size,13,none⟩=some (.string j.right.2.2.2):=z 13 _ rfl
   have aN:wr.cell? ⟨w.heap.size,14,none⟩=some (.int .i64 j.retry):=z 14 _ rfl
   have o:=Hk z
   have y:=z.lt
   clear z E A D I U
   go_wp2_with (go_at_call 10;refine HC.out.mono ?_;rintro e w2 ⟨vv,uu,rfl,aY,bQ,h⟩;obtain⟨bR,bW,rfl⟩:=Qae aY;have k0:=((o.out.below h y) 0 (.int .i64 j.at_) rfl);have k1:=((o.out.below h y) 1 (.int .i64 j.code) rfl);have k2:=((o.out.below h y) 2 j.outs rfl);have k3:=((o.out.below h y) 3 j.ins rfl);have k4:=((o.out.below h y) 4 j.cols rfl);have k5:=((o.out.below h y) 5 (.string j.op) rfl);have k6:=((o.out.below h y) 6 (.string j.left.1) rfl);have k7:=((o.out.below h y) 7 (.int .i64 j.left.2.1) rfl);have k8:=((o.out.below h y) 8 (.int .i64 j.left.2.2.1) rfl);have k9:=((o.out.below h y) 9 (.string j.left.2.2.2) rfl);have a4:=((o.out.below h y) 10 (.string j.right.1) rfl);have aP:=((o.out.below h y) 11 (.int .i64 j.right.2.1) rfl);have aM:=((o.out.below h y) 12 (.int .i64 j.right.2.2.1) rfl);have a8:=((o.out.below h y) 13 (.string j.right.2.2.2) rfl);have aA:=((o.out.below h y) 14 (.int .i64 j.retry) rfl))
   have ad:=Qaa HO.out.2.2.2 h
   have ao:=Hk (aa.out w2 ad)
   refine ao.out.mono ?_
   rintro e w3 ⟨x1,x2,aj,ai,rfl,o1,o2,o3,o4,aW⟩
   obtain⟨bX,bS,rfl⟩:=Qae o1
   obtain⟨bV,bP,rfl⟩:=Qae o3
   have ax:=Qaa ad aW
   have HZ:=Hk ax
   clear j0 j1 j2 j3 j4 j5 j6 j7 j8 j9 aR az aX aQ aN k0 k1 k2 k3 k4 k5 k6 k7 k8 k9 a4 aP aM a8 aA ao aa
   have bT:(60:Int)<(Z.length:Int):=by omega
   go_wp2
   go_ret2
   exact⟨rfl,HZ.out⟩
end Go.Proofs.YtofidnijfnhpaaaGreatDoor
