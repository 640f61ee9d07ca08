import Derived.Test.YtjlgejennghhlaaGreatDoorQ01
import Derived.Test.YtjlgejennghhlaaGreatDoorQ10
set_option linter.unusedSimpArgs false
set_option linter.unusedVariables false
set_option linter.unusedSectionVars false
set_option maxRecDepth 1000000
set_option maxHeartbeats 16000000
namespace Go.Proofs.YtjlgejennghhlaaGreatDoor
open Go.RowKit
theorem Qdc {G:World->Prop} (F:World->Prop) (y:World) (h:F y) (k:∀w,F w->G w):G y:=k y h
theorem Qce (w:World) (j:Jb) (t:TypeId):QaC (w.alloc (.cells j.cells t)) w.heap.size j:=fun k v hk=>by rw[World.cell?_alloc_at _ _ _ _ rfl];exact hk
theorem QnH (w:World) (a b:Value) (e:TypeId) (B H:Nat) (h:B<=w.heap.size) (y:w.heap.size=H):(w.alloc (.cells #[a,b] e)).ownsRow B e 2 (.slice (some ⟨H,0,none⟩) 1 1) 1 [a,b]:=by
 subst y;exact⟨by simp,Or.inr ⟨w.heap.size,1,#[a,b],rfl,h,by show(w.heap.push _)[w.heap.size]? =_;simp,Nat.le_refl _,by unfold maxLen;omega,by simp,by simp⟩⟩
theorem QdT {w:World} {B:Nat} {v:Value} {us:List Value} {css:List (List Cl)} (y:w.ownsRow B 51 1 v css.length us) (K:0<css.length):∃g c,v=.slice (some ⟨g,0,none⟩) css.length c/\B<=g:=by
 obtain⟨-,⟨rfl,F⟩|⟨g,h,H,rfl,D,J,F,I,_,_⟩⟩:=y
 ·omega
 ·exact⟨g,h,rfl,D⟩
def Qbv (w:World) (B:Nat) (v:Value) (cs:List Cl):Prop:=w.ownsRow B 64 2 v cs.length (Qak cs)/\∀x∈cs,x.1.size<=maxLen
def Qbn (w:World) (B:Nat) (v:Value) (rs:List (List Vl)):Prop:=∃us,w.ownsRow B 84 1 v rs.length us/\Qab w B us rs
theorem Qbv.is {w:World} {B:Nat} {v:Value} {cs:List Cl} (h:Qbv w B v cs):Qax w v cs:=Qbl h.1 h.2
theorem Qbn.is {w:World} {B:Nat} {v:Value} {rs:List (List Vl)} (h:Qbn w B v rs):QaG w v rs:=by obtain⟨us,y,D⟩:=h;exact QbT y D
theorem Qbv.below {w w':World} {B:Nat} {v:Value} {cs:List Cl} (h:Qbv w B v cs) (y:Below w.heap.size w w'):Qbv w' B v cs:=⟨owns_below h.1 y,h.2⟩
theorem Qbn.below {w w':World} {B:Nat} {v:Value} {rs:List (List Vl)} (h:Qbn w B v rs) (y:Below w.heap.size w w'):Qbn w' B v rs:=by obtain⟨us,D,F⟩:=h;exact⟨us,owns_below D y,F.below y⟩
theorem Qbv.set {w:World} {B R o:Nat} {v x:Value} {cs:List Cl} (h:Qbv w B v cs) (y:R<B):Qbv (w.setCell ⟨R,o,none⟩ x) B v cs:=⟨ownsRow_setCell_below h.1 y _,h.2⟩
theorem Qbn.set {w:World} {B R o:Nat} {v x:Value} {rs:List (List Vl)} (h:Qbn w B v rs) (y:R<B):Qbn (w.setCell ⟨R,o,none⟩ x) B v rs:=by obtain⟨us,D,F⟩:=h;exact⟨us,ownsRow_setCell_below D y _,F.set y⟩
theorem Qbv.mono {w:World} {B B':Nat} {v:Value} {cs:List Cl} (h:Qbv w B v cs) (y:B'<=B):Qbv w B' v cs:=⟨own_mono y h.1,h.2⟩
theorem Qbn.mono {w:World} {B B':Nat} {v:Value} {rs:List (List Vl)} (h:Qbn w B v rs) (y:B'<=B):Qbn w B' v rs:=by obtain⟨us,D,F⟩:=h;exact⟨us,own_mono y D,F.mono y⟩
def QbP (w:World) (B g:Nat) (ts:List Tb):Prop:=∀(j:Nat) (h:j<ts.length),∃vc vr,w.cell? ⟨g,0+j*2,none⟩=some vc/\w.cell? ⟨g,0+j*2+1,none⟩=some vr/\Qbv w B vc ts[j].1/\Qbn w B vr ts[j].2
theorem QlB {w:World} {B n:Nat} {v:Value} {us:List Value} {e:TypeId} (h:w.ownsRow B e 1 v n us) (N:0<n):∃g y us',v=.slice (some ⟨g,0,none⟩) n (match v with |.slice _ _ c=>c|_=>0)/\us=y::us'/\g<w.heap.size/\w.cell? ⟨g,0,none⟩=some y:=by
 have h':=h;obtain⟨F,⟨rfl,H⟩|⟨g,J,I,rfl,O,M,H,K,_,_⟩⟩:=h
 ·omega
 ·cases us with
  |nil=>simp at F;omega
  |cons y r=>
   have D:=h'.cellAt 0 (by omega);exact⟨g,y,r,rfl,rfl,(h'.lt g rfl).2,by rw[D];rfl⟩
theorem Qcy {w:World} {B n g c:Nat} {us:List Value} {e:TypeId} (h:w.ownsRow B e 1 (.slice (some ⟨g,0,none⟩) n c) n us) (k:Nat) (y:Value) (H:k<n) (D:us[k]? =some y):w.cell? ⟨g,k,none⟩=some y:=by
 have F:=h.cellAt k (by omega);rw[F,D]
theorem Qcz {w:World} {B n z:Nat} {v:Value} {us:List Value} {e:TypeId} (h:w.ownsRow B e z v n us) (U:0<n):∃g c,v=.slice (some ⟨g,0,none⟩) n c/\B<=g/\g<w.heap.size/\∀k y,us[k]? =some y->w.cell? ⟨g,0+k,none⟩=some y:=by
 have h':=h;obtain⟨N,⟨rfl,I⟩|⟨g,D,J,rfl,H,O,I,M,_,_⟩⟩:=h
 ·omega
 ·refine⟨g,D,rfl,H,(h'.lt g rfl).2,fun k y hk=>?_⟩;have K:k<us.length:=(List.getElem?_eq_some_iff.1 hk).1;have F:=h'.cellAt k (by omega);rw[Nat.zero_add,F,hk]
theorem QhD (tb U tcap:Nat) (ts:List Tb) (j:Jb) (w:World) (ht:QaX w tb U ts) (af:tb<w.heap.size) (hl:ts.length<=100) (ao:0<ts.length) (M:∀t∈ts,Qae t.1 t.2=true)
 (n:Int) (hn:n≠0)
 (H:∀W B g ac us,Below w.heap.size w W->W.ownsRow B 51 1 (.slice (some ⟨g,0,none⟩) ts.length ac) ts.length us->QaE W us (ts.map (·.1))->Calls Tryz.prog 59 #[.agg j.cells,.slice (some ⟨g,0,none⟩) ts.length ac] W fun e w'=>e=.returned (.tuple #[.slice none 0 0,QbK n])/\Below W.heap.size W w'):
 Calls Tryz.prog 61 #[.agg j.cells,.slice (some ⟨tb,U,none⟩) ts.length tcap] w fun e w'=>e=.returned (.tuple #[.slice none 0 0,QbK n])/\Below w.heap.size w w':=by
 obtain⟨i0,hi,au,aF,aA⟩:=info_parts Tryz.infoCols;have HG:=Hk M;have HT:=Hk ht;rw[QaS hn] at H⊢;unfold Jb.cells at H;have O:=Hk H;clear H;clear M ht;have Z:=Qce w j 50;unfold Jb.cells at Z⊢;have ae:=Hk Z;clear Z;go_enter Tryz.func61,Tryz.ntmps61;go_wp2;refine Qdc (G:=fun w=>Code.wp _ _ _ _ w) (fun I=>QaC I w.heap.size j/\Below w.heap.size w I/\w.heap.size<I.heap.size) _ ⟨ae.out,Qaa _ _,by simp⟩ ?_;clear ae;intro I ⟨h,ah,aw⟩;have HJ:=Hk (Ai h ah);clear h ah;go_loopw [6,16] (fun l i wr=>∃(k:Nat) (us:List Value),k<=ts.length/\i=.int .i64 k/\wr.ownsRow I.heap.size 51 1 l k us/\QaE w us ((ts.take k).map (·.1))/\Below I.heap.size I wr) (fun _ i _=>ts.length-(intOf i).toNat)
 case atStart=>exact⟨0,[],Nat.zero_le _,rfl,World.ownsRow_nil _ _ _ _,⟨rfl,fun j hj=>absurd hj (by simp)⟩,Below.refl _ _⟩
 case round=>
  obtain⟨k,us,hk,rfl,F,y,J⟩:=hrel;obtain⟨la,lc,rfl⟩:=own_slice F;have D:Below w.heap.size w wr:=HJ.out.2.trans (J.mono HJ.out.2.size);have a2:=J.size;have HO:=Hk (Ai F (Ai y (Ai J D)))
  by_cases hlt:k<ts.length
  ·obtain⟨vc,vr,c0,c1,hc,hr⟩:=HT.out k hlt;have d0:=cK D af c0;have d1:=cK D af c1;have aa:=fun W (hW:Below wr.heap.size wr W)=>right_any vc vr ts[k].1 ts[k].2 W ((hc.below D).below hW) ((hr.below D).below hW)
   have aB:=Hk hc;obtain⟨ca,cc,rfl,-⟩:=hc;obtain⟨ra,rc,rfl,-⟩:=hr;have g:=HG.out _ (List.getElem_mem hlt);simp only[g] at aa;have av:=Hk aa;clear aa c0 c1 F y D J g;have ab:(ts.take (k+1)).map (·.1)=(ts.take k).map (·.1)++[ts[k].1]:=by rw[List.take_succ_eq_append_getElem hlt,List.map_append];rfl
   have HM:=Hk ab;clear ab;generalize aD:ts[k].1=q1 at*;clear aD;generalize aI:ts[k].2.length=n2 at*;clear aI;go_wp2_with (first|(go_at_call 13;refine(av.out _ (Qaa _ _)).mono ?_;rintro e w1 ⟨rfl,K⟩;obtain⟨aK,aJ⟩:=QaP K;have aV:wr.heap.size<w1.heap.size:=by(have:=K.size;simp at this;omega))|(at_builtin;refine wpList_append_own _ rfl _ _ 123 rfl I.heap.size 51 i0 (.slice none 0 0) 1 24 Tryz.underlying123 hi au aF aA rfl (by decide) _ _ _ rfl ((owns_below (HO.out.1.alloc _) K).alloc _) ⟨w1.heap.size,0,none⟩ 1 1 [.slice ca q1.length cc] rfl rfl (news1 _ _ _ _ rfl) (Qc2 _ _ _) ?c3 ?c4 ?c5 ?_))
   case c3=>unfold maxLen;omega
   case c4=>omega
   case c5=>have:=K.size;simp at this⊢;omega
   intro v' w5 V N _;obtain⟨p1,p2,p3,p4⟩:=HO.out;have ad:Below I.heap.size I w5:=((bel_then (bel_box p3 _) K).alloc (by omega) _).grown N (by simp;omega) (fun q hq=>(p1.lt q hq).1);have ai:QaE w (us++[.slice ca q1.length cc]) ((ts.take (k+1)).map (·.1)):=by
    rw[HM.out];exact p2.snoc aB.out
   have HF:=Hk (Ai V (Ai ai ad));clear V N ad aK aJ p1 p2 p3 p4 ai;go_wp2;go_roundw
   case rel=>exact⟨k+1,_,by omega,by go_num,HF.out.1,HF.out.2.1,HF.out.2.2⟩
   case measure=>simp[intOf];omega
  ·have ay:k=ts.length:=by omega
   subst ay;simp only[List.take_length] at y;obtain⟨g,ac,ag,a6⟩:=QdT (css:=ts.map (·.1)) (by simpa using F) (by simpa using ao);simp only[List.length_map,Value.slice.injEq,true_and] at ag;obtain⟨rfl,rfl⟩:=ag;have HC:=Hk (O.out wr I.heap.size g lc us D F (y.below D));have h:=HJ.out.1.below J aw;have j0:wr.cell? ⟨w.heap.size,0,none⟩=some (.int .i64 j.at_):=h 0 _ rfl;have j1:wr.cell? ⟨w.heap.size,1,none⟩=some (.int .i64 j.code):=h 1 _ rfl;have j2:wr.cell? ⟨w.heap.size,2,none⟩=some j.outs:=h 2 _ rfl;have j3:wr.cell? ⟨w.heap.size,3,none⟩=some j.ins:=h 3 _ rfl;have j4:wr.cell? ⟨w.heap.size,4,none⟩=some j.cols:=h 4 _ rfl;have j5:wr.cell? ⟨w.heap.size,5,none⟩=some (.string j.op):=h 5 _ rfl;have j6:wr.cell? ⟨w.heap.size,6,none⟩=some (.string j.left.1):=h 6 _ rfl;have j7:wr.cell? ⟨w.heap.size,7,none⟩=some (.int .i64 j.left.2.1):=h 7 _ rfl;have j8:wr.cell? ⟨w.heap.size,8,none⟩=some (.int .i64 j.left.2.2.1):=h 8 _ rfl;have j9:wr.cell? ⟨w.heap.size,9,none⟩=some (.string j.left.2.2.2):=h 9 _ rfl;have aZ:wr.cell? ⟨w.heap.size,10,none⟩=some (.string j.right.1):=h 10 _ rfl;have a4:wr.cell? ⟨w.heap.size,11,none⟩=some (.int .i64 j.right.2.1):=h 11 _ rfl;have a0:wr.cell? ⟨w.heap.size,12,none⟩=some (.int .i64 j.right.2.2.1):=h 12 _ rfl;have a5:wr.cell? ⟨w.heap.size,13,none⟩=some (.string j.right.2.2.2):=h 13 _ rfl;have a1:wr.cell? ⟨w.heap.size,14,none⟩=some (.int .i64 j.retry):=h 14 _ rfl;have a3:=Hk h;have aY:=h.lt;clear h F y D J O;go_wp2_with (go_at_call 59;refine HC.out.mono ?_;rintro e w2 ⟨rfl,az⟩)
   go_ret2
   exact⟨rfl,bel_then HO.out.2.2.2 az⟩
theorem QlC (tb U tcap:Nat) (ts:List Tb) (j:Jb) (w:World) (ht:QaX w tb U ts) (ap:tb<w.heap.size) (hl:ts.length<=100) (aC:0<ts.length) (Z:∀t∈ts,Qae t.1 t.2=true)
 (cs:List Cl) (mk:Nat) (ab av:List (List Vl)) (a8:60<ab.length)
 (O:∀W B g al us,Below w.heap.size w W->W.ownsRow B 51 1 (.slice (some ⟨g,0,none⟩) ts.length al) ts.length us->QaE W us (ts.map (·.1))->Calls Tryz.prog 59 #[.agg j.cells,.slice (some ⟨g,0,none⟩) ts.length al] W fun e w'=>∃v us,e=.returned (.tuple #[v,.nilIface])/\w'.ownsRow W.heap.size 51 1 v mk us/\Qbj w' W.heap.size us cs/\Below W.heap.size W w')
 (N:∀W,Below w.heap.size w W->Calls Tryz.prog 102 #[.agg j.cells,.slice (some ⟨tb,U,none⟩) ts.length tcap] W fun e w'=>∃v1 v2 ak aj,e=.returned (.tuple #[v1,v2,.nilIface])/\w'.ownsRow W.heap.size 84 1 v1 ab.length ak/\Qab w' W.heap.size ak ab/\w'.ownsRow W.heap.size 84 1 v2 av.length aj/\Qab w' W.heap.size aj av/\Below W.heap.size W w'):
 Calls Tryz.prog 61 #[.agg j.cells,.slice (some ⟨tb,U,none⟩) ts.length tcap] w fun e w'=>e=.returned (.tuple #[.slice none 0 0,QbK 12])/\Below w.heap.size w w':=by
 obtain⟨i0,hi,aG,a0,aS⟩:=info_parts Tryz.infoCols;have HG:=Hk Z;have HT:=Hk ht;unfold Jb.cells at O N;have ac:=Hk O;have ad:=Hk N;clear O N;clear Z ht;have af:=Qce w j 50;unfold Jb.cells at af⊢;have ao:=Hk af;clear af;go_enter Tryz.func61,Tryz.ntmps61;go_wp2;refine Qdc (G:=fun w=>Code.wp _ _ _ _ w) (fun K=>QaC K w.heap.size j/\Below w.heap.size w K/\w.heap.size<K.heap.size) _ ⟨ao.out,Qaa _ _,by simp⟩ ?_;clear ao;intro K ⟨F,au,aK⟩;have HJ:=Hk (Ai F au);clear F au;go_loopw [6,16] (fun l i wr=>∃(k:Nat) (us:List Value),k<=ts.length/\i=.int .i64 k/\wr.ownsRow K.heap.size 51 1 l k us/\QaE w us ((ts.take k).map (·.1))/\Below K.heap.size K wr) (fun _ i _=>ts.length-(intOf i).toNat)
 case atStart=>exact⟨0,[],Nat.zero_le _,rfl,World.ownsRow_nil _ _ _ _,⟨rfl,fun j hj=>absurd hj (by simp)⟩,Below.refl _ _⟩
 case round=>
  obtain⟨k,us,hk,rfl,J,H,M⟩:=hrel;obtain⟨la,lc,rfl⟩:=own_slice J;have I:Below w.heap.size w wr:=HJ.out.2.trans (M.mono HJ.out.2.size);have bO:=M.size;have HO:=Hk (Ai J (Ai H (Ai M I)))
  by_cases hlt:k<ts.length
  ·obtain⟨vc,vr,c0,c1,hc,hr⟩:=HT.out k hlt;have d0:=cK I ap c0;have d1:=cK I ap c1;have ag:=fun W (hW:Below wr.heap.size wr W)=>right_any vc vr ts[k].1 ts[k].2 W ((hc.below I).below hW) ((hr.below I).below hW)
   have aU:=Hk hc;obtain⟨ca,cc,rfl,-⟩:=hc;obtain⟨ra,rc,rfl,-⟩:=hr;have g:=HG.out _ (List.getElem_mem hlt);simp only[g] at ag;have aH:=Hk ag;clear ag c0 c1 J H I M g;have ai:(ts.take (k+1)).map (·.1)=(ts.take k).map (·.1)++[ts[k].1]:=by rw[List.take_succ_eq_append_getElem hlt,List.map_append];rfl
   have HM:=Hk ai;clear ai;generalize aY:ts[k].1=q1 at*;clear aY;generalize a3:ts[k].2.length=n2 at*;clear a3;go_wp2_with (first|(go_at_call 13;refine(aH.out _ (Qaa _ _)).mono ?_;rintro e w1 ⟨rfl,V⟩;obtain⟨a7,a6⟩:=QaP V;have bF:wr.heap.size<w1.heap.size:=by(have:=V.size;simp at this;omega))|(at_builtin;refine wpList_append_own _ rfl _ _ 123 rfl K.heap.size 51 i0 (.slice none 0 0) 1 24 Tryz.underlying123 hi aG a0 aS rfl (by decide) _ _ _ rfl ((owns_below (HO.out.1.alloc _) V).alloc _) ⟨w1.heap.size,0,none⟩ 1 1 [.slice ca q1.length cc] rfl rfl (news1 _ _ _ _ rfl) (Qc2 _ _ _) ?c3 ?c4 ?c5 ?_))
   case c3=>unfold maxLen;omega
   case c4=>omega
   case c5=>have:=V.size;simp at this⊢;omega
   intro v' w5 ae aa _;obtain⟨p1,p2,p3,p4⟩:=HO.out;have am:Below K.heap.size K w5:=((bel_then (bel_box p3 _) V).alloc (by omega) _).grown aa (by simp;omega) (fun q hq=>(p1.lt q hq).1);have aw:QaE w (us++[.slice ca q1.length cc]) ((ts.take (k+1)).map (·.1)):=by
    rw[HM.out];exact p2.snoc aU.out
   have HF:=Hk (Ai ae (Ai aw am));clear ae aa am a7 a6 p1 p2 p3 p4 aw;go_wp2;go_roundw
   case rel=>exact⟨k+1,_,by omega,by go_num,HF.out.1,HF.out.2.1,HF.out.2.2⟩
   case measure=>simp[intOf];omega
  ·have aM:k=ts.length:=by omega
   subst aM;simp only[List.take_length] at H;obtain⟨g,al,aq,bT⟩:=QdT (css:=ts.map (·.1)) (by simpa using J) (by simpa using aC);simp only[List.length_map,Value.slice.injEq,true_and] at aq;obtain⟨rfl,rfl⟩:=aq;have HC:=Hk (ac.out wr K.heap.size g lc us I J (H.below I));have F:=HJ.out.1.below M aK;have j0:wr.cell? ⟨w.heap.size,0,none⟩=some (.int .i64 j.at_):=F 0 _ rfl;have j1:wr.cell? ⟨w.heap.size,1,none⟩=some (.int .i64 j.code):=F 1 _ rfl;have j2:wr.cell? ⟨w.heap.size,2,none⟩=some j.outs:=F 2 _ rfl;have j3:wr.cell? ⟨w.heap.size,3,none⟩=some j.ins:=F 3 _ rfl;have j4:wr.cell? ⟨w.heap.size,4,none⟩=some j.cols:=F 4 _ rfl;have j5:wr.cell? ⟨w.heap.size,5,none⟩=some (.string j.op):=F 5 _ rfl;have j6:wr.cell? ⟨w.heap.size,6,none⟩=some (.string j.left.1):=F 6 _ rfl;have j7:wr.cell? ⟨w.heap.size,7,none⟩=some (.int .i64 j.left.2.1):=F 7 _ rfl;have j8:wr.cell? ⟨w.heap.size,8,none⟩=some (.int .i64 j.left.2.2.1):=F 8 _ rfl;have j9:wr.cell? ⟨w.heap.size,9,none⟩=some (.string j.left.2.2.2):=F 9 _ rfl;have aJ:wr.cell? ⟨w.heap.size,10,none⟩=some (.string j.right.1):=F 10 _ rfl;have aW:wr.cell? ⟨w.heap.size,11,none⟩=some (.int .i64 j.right.2.1):=F 11 _ rfl;have aN:wr.cell? ⟨w.heap.size,12,none⟩=some (.int .i64 j.right.2.2.1):=F 12 _ rfl;have a4:wr.cell? ⟨w.heap.size,13,none⟩=some (.string j.right.2.2.2):=F 13 _ rfl;have aO:wr.cell? ⟨w.heap.size,14,none⟩=some (.int .i64 j.retry):=F 14 _ rfl;have D:=Hk F;have y:=F.lt;clear F J H I M ac;go_wp2_with (go_at_call 59;refine HC.out.mono ?_;rintro e w2 ⟨vv,uu,rfl,aP,bP,h⟩;obtain⟨bN,bL,rfl⟩:=own_slice aP;have k0:=((D.out.below h y) 0 (.int .i64 j.at_) rfl);have k1:=((D.out.below h y) 1 (.int .i64 j.code) rfl);have k2:=((D.out.below h y) 2 j.outs rfl);have k3:=((D.out.below h y) 3 j.ins rfl);have k4:=((D.out.below h y) 4 j.cols rfl);have k5:=((D.out.below h y) 5 (.string j.op) rfl);have k6:=((D.out.below h y) 6 (.string j.left.1) rfl);have k7:=((D.out.below h y) 7 (.int .i64 j.left.2.1) rfl);have k8:=((D.out.below h y) 8 (.int .i64 j.left.2.2.1) rfl);have k9:=((D.out.below h y) 9 (.string j.left.2.2.2) rfl);have aR:=((D.out.below h y) 10 (.string j.right.1) rfl);have aT:=((D.out.below h y) 11 (.int .i64 j.right.2.1) rfl);have a5:=((D.out.below h y) 12 (.int .i64 j.right.2.2.1) rfl);have aV:=((D.out.below h y) 13 (.string j.right.2.2.2) rfl);have aI:=((D.out.below h y) 14 (.int .i64 j.retry) rfl));have ah:=bel_then HO.out.2.2.2 h;have ar:=Hk (ad.out w2 ah);refine ar.out.mono ?_;rintro e w3 ⟨x1,x2,ak,aj,rfl,o1,o2,o3,o4,aQ⟩;obtain⟨bU,bQ,rfl⟩:=own_slice o1;obtain⟨bS,bM,rfl⟩:=own_slice o3;have ax:=bel_then ah aQ;have HZ:=Hk ax;clear j0 j1 j2 j3 j4 j5 j6 j7 j8 j9 aJ aW aN a4 aO k0 k1 k2 k3 k4 k5 k6 k7 k8 k9 aR aT a5 aV aI ar ad;have bR:(60:Int)<(ab.length:Int):=by omega
   go_wp2
   go_ret2
   exact⟨rfl,HZ.out⟩
end Go.Proofs.YtjlgejennghhlaaGreatDoor
