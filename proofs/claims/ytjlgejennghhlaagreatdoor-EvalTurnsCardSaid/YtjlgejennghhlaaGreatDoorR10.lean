import Derived.Test.YtjlgejennghhlaaGreatDoorR01
import Derived.Test.YtjlgejennghhlaaGreatDoorR09
set_option linter.unusedSimpArgs false
set_option linter.unusedVariables false
set_option linter.unusedSectionVars false
set_option maxRecDepth 1000000
set_option maxHeartbeats 16000000
namespace Go.Proofs.YtjlgejennghhlaaGreatDoor
open Go.RowKit
theorem Qde {G:World->Prop} (F:World->Prop) (y:World) (h:F y) (k:∀w,F w->G w):G y:=k y h
theorem Qcf (w:World) (j:Jb) (t:TypeId):QaC (w.alloc (.cells j.cells t)) w.heap.size j:=fun k v hk=>by rw[World.cell?_alloc_at _ _ _ _ rfl];exact hk
theorem QnQ (w:World) (a b:Value) (e:TypeId) (B H:Nat) (h:B<=w.heap.size) (y:w.heap.size=H):(w.alloc (.cells #[a,b] e)).ownsRow B e 2 (.slice (some ⟨H,0,none⟩) 1 1) 1 [a,b]:=by
 subst y;exact⟨by simp,Or.inr ⟨w.heap.size,1,#[a,b],rfl,h,by show(w.heap.push _)[w.heap.size]? =_;simp,Nat.le_refl _,by unfold maxLen;omega,by simp,by simp⟩⟩
theorem QdZ {w:World} {B:Nat} {v:Value} {us:List Value} {css:List (List Cl)} (y:w.ownsRow B 51 1 v css.length us) (J:0<css.length):∃g c,v=.slice (some ⟨g,0,none⟩) css.length c/\B<=g:=by
 obtain⟨-,⟨rfl,E⟩|⟨g,h,F,rfl,D,I,E,H,_,_⟩⟩:=y
 ·omega
 ·exact⟨g,h,rfl,D⟩
def Qbx (w:World) (B:Nat) (v:Value) (cs:List Cl):Prop:=w.ownsRow B 64 2 v cs.length (Qal cs)/\∀x∈cs,x.1.size<=maxLen
def Qbo (w:World) (B:Nat) (v:Value) (rs:List (List Vl)):Prop:=∃us,w.ownsRow B 84 1 v rs.length us/\Qab w B us rs
theorem Qbx.is {w:World} {B:Nat} {v:Value} {cs:List Cl} (h:Qbx w B v cs):Qax w v cs:=Qbm h.1 h.2
theorem Qbo.is {w:World} {B:Nat} {v:Value} {rs:List (List Vl)} (h:Qbo w B v rs):QaG w v rs:=by obtain⟨us,y,D⟩:=h;exact QbX y D
theorem Qbx.below {w w':World} {B:Nat} {v:Value} {cs:List Cl} (h:Qbx w B v cs) (y:Below w.heap.size w w'):Qbx w' B v cs:=⟨owns_below h.1 y,h.2⟩
theorem Qbo.below {w w':World} {B:Nat} {v:Value} {rs:List (List Vl)} (h:Qbo w B v rs) (y:Below w.heap.size w w'):Qbo w' B v rs:=by obtain⟨us,D,E⟩:=h;exact⟨us,owns_below D y,E.below y⟩
theorem Qbx.set {w:World} {B R o:Nat} {v x:Value} {cs:List Cl} (h:Qbx w B v cs) (y:R<B):Qbx (w.setCell ⟨R,o,none⟩ x) B v cs:=⟨ownsRow_setCell_below h.1 y _,h.2⟩
theorem Qbo.set {w:World} {B R o:Nat} {v x:Value} {rs:List (List Vl)} (h:Qbo w B v rs) (y:R<B):Qbo (w.setCell ⟨R,o,none⟩ x) B v rs:=by obtain⟨us,D,E⟩:=h;exact⟨us,ownsRow_setCell_below D y _,E.set y⟩
theorem Qbx.mono {w:World} {B B':Nat} {v:Value} {cs:List Cl} (h:Qbx w B v cs) (y:B'<=B):Qbx w B' v cs:=⟨own_mono y h.1,h.2⟩
theorem Qbo.mono {w:World} {B B':Nat} {v:Value} {rs:List (List Vl)} (h:Qbo w B v rs) (y:B'<=B):Qbo w B' v rs:=by obtain⟨us,D,E⟩:=h;exact⟨us,own_mono y D,E.mono y⟩
def QbR (w:World) (B g:Nat) (ts:List Tb):Prop:=∀(j:Nat) (h:j<ts.length),∃vc vr,w.cell? ⟨g,0+j*2,none⟩=some vc/\w.cell? ⟨g,0+j*2+1,none⟩=some vr/\Qbx w B vc ts[j].1/\Qbo w B vr ts[j].2
theorem QlP {w:World} {B n:Nat} {v:Value} {us:List Value} {e:TypeId} (h:w.ownsRow B e 1 v n us) (M:0<n):∃g y us',v=.slice (some ⟨g,0,none⟩) n (match v with |.slice _ _ c=>c|_=>0)/\us=y::us'/\g<w.heap.size/\w.cell? ⟨g,0,none⟩=some y:=by
 have h':=h;obtain⟨E,⟨rfl,F⟩|⟨g,I,H,rfl,N,K,F,J,_,_⟩⟩:=h
 ·omega
 ·cases us with
  |nil=>simp at E;omega
  |cons y r=>
   have D:=h'.cellAt 0 (by omega);exact⟨g,y,r,rfl,rfl,(h'.lt g rfl).2,by rw[D];rfl⟩
theorem QcC {w:World} {B n g c:Nat} {us:List Value} {e:TypeId} (h:w.ownsRow B e 1 (.slice (some ⟨g,0,none⟩) n c) n us) (k:Nat) (y:Value) (F:k<n) (D:us[k]? =some y):w.cell? ⟨g,k,none⟩=some y:=by
 have E:=h.cellAt k (by omega);rw[E,D]
theorem QcD {w:World} {B n z:Nat} {v:Value} {us:List Value} {e:TypeId} (h:w.ownsRow B e z v n us) (O:0<n):∃g c,v=.slice (some ⟨g,0,none⟩) n c/\B<=g/\g<w.heap.size/\∀k y,us[k]? =some y->w.cell? ⟨g,0+k,none⟩=some y:=by
 have h':=h;obtain⟨M,⟨rfl,H⟩|⟨g,D,I,rfl,F,N,H,K,_,_⟩⟩:=h
 ·omega
 ·refine⟨g,D,rfl,F,(h'.lt g rfl).2,fun k y hk=>?_⟩;have J:k<us.length:=(List.getElem?_eq_some_iff.1 hk).1;have E:=h'.cellAt k (by omega);rw[Nat.zero_add,E,hk]
theorem QhJ (tb O tcap:Nat) (ts:List Tb) (j:Jb) (w:World) (ht:QaZ w tb O ts) (ae:tb<w.heap.size) (hl:ts.length<=100) (am:0<ts.length) (K:∀t∈ts,Qae t.1 t.2=true)
 (n:Int) (hn:n≠0)
 (F:∀W B g ab us,Below w.heap.size w W->W.ownsRow B 51 1 (.slice (some ⟨g,0,none⟩) ts.length ab) ts.length us->QaE W us (ts.map (·.1))->Calls Tryz.prog 59 #[.agg j.cells,.slice (some ⟨g,0,none⟩) ts.length ab] W fun e w'=>e=.returned (.tuple #[.slice none 0 0,QbN n])/\Below W.heap.size W w'):
 Calls Tryz.prog 61 #[.agg j.cells,.slice (some ⟨tb,O,none⟩) ts.length tcap] w fun e w'=>e=.returned (.tuple #[.slice none 0 0,QbN n])/\Below w.heap.size w w':=by
 obtain⟨i0,hi,ar,aE,az⟩:=info_parts Tryz.infoCols;have HG:=Hk K;have HT:=Hk ht;rw[QaT hn] at F⊢;unfold Jb.cells at F;have N:=Hk F;clear F;clear K ht;have V:=Qcf w j 50;unfold Jb.cells at V⊢;have ad:=Hk V;clear V;go_enter Tryz.func61,Tryz.ntmps61;go_wp2;refine Qde (G:=fun w=>Code.wp _ _ _ _ w) (fun H=>QaC H w.heap.size j/\Below w.heap.size w H/\w.heap.size<H.heap.size) _ ⟨ad.out,Qaa _ _,by simp⟩ ?_;clear ad;intro H ⟨h,ag,av⟩;have HJ:=Hk (Ai h ag);clear h ag;go_loopw [6,16] (fun l i wr=>∃(k:Nat) (us:List Value),k<=ts.length/\i=.int .i64 k/\wr.ownsRow H.heap.size 51 1 l k us/\QaE w us ((ts.take k).map (·.1))/\Below H.heap.size H wr) (fun _ i _=>ts.length-(intOf i).toNat)
 case atStart=>exact⟨0,[],Nat.zero_le _,rfl,World.ownsRow_nil _ _ _ _,⟨rfl,fun j hj=>absurd hj (by simp)⟩,Below.refl _ _⟩
 case round=>
  obtain⟨k,us,hk,rfl,E,y,I⟩:=hrel;obtain⟨la,lc,rfl⟩:=own_slice E;have D:Below w.heap.size w wr:=HJ.out.2.trans (I.mono HJ.out.2.size);have a1:=I.size;have HO:=Hk (Ai E (Ai y (Ai I D)))
  by_cases hlt:k<ts.length
  ·obtain⟨vc,vr,c0,c1,hc,hr⟩:=HT.out k hlt;have d0:=cK D ae c0;have d1:=cK D ae c1;have Z:=fun W (hW:Below wr.heap.size wr W)=>right_any vc vr ts[k].1 ts[k].2 W ((hc.below D).below hW) ((hr.below D).below hW)
   have aA:=Hk hc;obtain⟨ca,cc,rfl,-⟩:=hc;obtain⟨ra,rc,rfl,-⟩:=hr;have g:=HG.out _ (List.getElem_mem hlt);simp only[g] at Z;have au:=Hk Z;clear Z c0 c1 E y D I g;have aa:(ts.take (k+1)).map (·.1)=(ts.take k).map (·.1)++[ts[k].1]:=by rw[List.take_succ_eq_append_getElem hlt,List.map_append];rfl
   have HM:=Hk aa;clear aa;generalize aC:ts[k].1=q1 at*;clear aC;generalize aH:ts[k].2.length=n2 at*;clear aH;go_wp2_with (first|(go_at_call 13;refine(au.out _ (Qaa _ _)).mono ?_;rintro e w1 ⟨rfl,J⟩;obtain⟨aJ,aI⟩:=QaQ J;have aU:wr.heap.size<w1.heap.size:=by(have:=J.size;simp at this;omega))|(at_builtin;refine wpList_append_own _ rfl _ _ 123 rfl H.heap.size 51 i0 (.slice none 0 0) 1 24 Tryz.underlying123 hi ar aE az rfl (by decide) _ _ _ rfl ((owns_below (HO.out.1.alloc _) J).alloc _) ⟨w1.heap.size,0,none⟩ 1 1 [.slice ca q1.length cc] rfl rfl (news1 _ _ _ _ rfl) (Qc4 _ _ _) ?c3 ?c4 ?c5 ?_))
   case c3=>unfold maxLen;omega
   case c4=>omega
   case c5=>have:=J.size;simp at this⊢;omega
   intro v' w5 U M _;obtain⟨p1,p2,p3,p4⟩:=HO.out;have ac:Below H.heap.size H w5:=((bel_then (bel_box p3 _) J).alloc (by omega) _).grown M (by simp;omega) (fun q hq=>(p1.lt q hq).1);have ah:QaE w (us++[.slice ca q1.length cc]) ((ts.take (k+1)).map (·.1)):=by
    rw[HM.out];exact p2.snoc aA.out
   have HF:=Hk (Ai U (Ai ah ac));clear U M ac aJ aI p1 p2 p3 p4 ah;go_wp2;go_roundw
   case rel=>exact⟨k+1,_,by omega,by go_num,HF.out.1,HF.out.2.1,HF.out.2.2⟩
   case measure=>simp[intOf];omega
  ·have ax:k=ts.length:=by omega
   subst ax;simp only[List.take_length] at y;obtain⟨g,ab,af,a5⟩:=QdZ (css:=ts.map (·.1)) (by simpa using E) (by simpa using am);simp only[List.length_map,Value.slice.injEq,true_and] at af;obtain⟨rfl,rfl⟩:=af;have HC:=Hk (N.out wr H.heap.size g lc us D E (y.below D));have h:=HJ.out.1.below I av;have j0:wr.cell? ⟨w.heap.size,0,none⟩=some (.int .i64 j.at_):=h 0 _ rfl;have j1:wr.cell? ⟨w.heap.size,1,none⟩=some (.int .i64 j.code):=h 1 _ rfl;have j2:wr.cell? ⟨w.heap.size,2,none⟩=some j.outs:=h 2 _ rfl;have j3:wr.cell? ⟨w.heap.size,3,none⟩=some j.ins:=h 3 _ rfl;have j4:wr.cell? ⟨w.heap.size,4,none⟩=some j.cols:=h 4 _ rfl;have j5:wr.cell? ⟨w.heap.size,5,none⟩=some (.string j.op):=h 5 _ rfl;have j6:wr.cell? ⟨w.heap.size,6,none⟩=some (.string j.left.1):=h 6 _ rfl;have j7:wr.cell? ⟨w.heap.size,7,none⟩=some (.int .i64 j.left.2.1):=h 7 _ rfl;have j8:wr.cell? ⟨w.heap.size,8,none⟩=some (.int .i64 j.left.2.2.1):=h 8 _ rfl;have j9:wr.cell? ⟨w.heap.size,9,none⟩=some (.string j.left.2.2.2):=h 9 _ rfl;have aY:wr.cell? ⟨w.heap.size,10,none⟩=some (.string j.right.1):=h 10 _ rfl;have a3:wr.cell? ⟨w.heap.size,11,none⟩=some (.int .i64 j.right.2.1):=h 11 _ rfl;have aZ:wr.cell? ⟨w.heap.size,12,none⟩=some (.int .i64 j.right.2.2.1):=h 12 _ rfl;have a4:wr.cell? ⟨w.heap.size,13,none⟩=some (.string j.right.2.2.2):=h 13 _ rfl;have a0:wr.cell? ⟨w.heap.size,14,none⟩=some (.int .i64 j.retry):=h 14 _ rfl;have a2:=Hk h;have aX:=h.lt;clear h E y D I N;go_wp2_with (go_at_call 59;refine HC.out.mono ?_;rintro e w2 ⟨rfl,ay⟩)
   go_ret2
   exact⟨rfl,bel_then HO.out.2.2.2 ay⟩
theorem QlQ (tb O tcap:Nat) (ts:List Tb) (j:Jb) (w:World) (ht:QaZ w tb O ts) (ao:tb<w.heap.size) (hl:ts.length<=100) (aB:0<ts.length) (V:∀t∈ts,Qae t.1 t.2=true)
 (cs:List Cl) (mk:Nat) (aa au:List (List Vl)) (a7:60<aa.length)
 (N:∀W B g ak us,Below w.heap.size w W->W.ownsRow B 51 1 (.slice (some ⟨g,0,none⟩) ts.length ak) ts.length us->QaE W us (ts.map (·.1))->Calls Tryz.prog 59 #[.agg j.cells,.slice (some ⟨g,0,none⟩) ts.length ak] W fun e w'=>∃v us,e=.returned (.tuple #[v,.nilIface])/\w'.ownsRow W.heap.size 51 1 v mk us/\Qbk w' W.heap.size us cs/\Below W.heap.size W w')
 (M:∀W,Below w.heap.size w W->Calls Tryz.prog 102 #[.agg j.cells,.slice (some ⟨tb,O,none⟩) ts.length tcap] W fun e w'=>∃v1 v2 aj ai,e=.returned (.tuple #[v1,v2,.nilIface])/\w'.ownsRow W.heap.size 84 1 v1 aa.length aj/\Qab w' W.heap.size aj aa/\w'.ownsRow W.heap.size 84 1 v2 au.length ai/\Qab w' W.heap.size ai au/\Below W.heap.size W w'):
 Calls Tryz.prog 61 #[.agg j.cells,.slice (some ⟨tb,O,none⟩) ts.length tcap] w fun e w'=>e=.returned (.tuple #[.slice none 0 0,QbN 12])/\Below w.heap.size w w':=by
 obtain⟨i0,hi,aF,aZ,aR⟩:=info_parts Tryz.infoCols;have HG:=Hk V;have HT:=Hk ht;unfold Jb.cells at N M;have ab:=Hk N;have ac:=Hk M;clear N M;clear V ht;have ae:=Qcf w j 50;unfold Jb.cells at ae⊢;have am:=Hk ae;clear ae;go_enter Tryz.func61,Tryz.ntmps61;go_wp2;refine Qde (G:=fun w=>Code.wp _ _ _ _ w) (fun J=>QaC J w.heap.size j/\Below w.heap.size w J/\w.heap.size<J.heap.size) _ ⟨am.out,Qaa _ _,by simp⟩ ?_;clear am;intro J ⟨E,ar,aJ⟩;have HJ:=Hk (Ai E ar);clear E ar;go_loopw [6,16] (fun l i wr=>∃(k:Nat) (us:List Value),k<=ts.length/\i=.int .i64 k/\wr.ownsRow J.heap.size 51 1 l k us/\QaE w us ((ts.take k).map (·.1))/\Below J.heap.size J wr) (fun _ i _=>ts.length-(intOf i).toNat)
 case atStart=>exact⟨0,[],Nat.zero_le _,rfl,World.ownsRow_nil _ _ _ _,⟨rfl,fun j hj=>absurd hj (by simp)⟩,Below.refl _ _⟩
 case round=>
  obtain⟨k,us,hk,rfl,I,F,K⟩:=hrel;obtain⟨la,lc,rfl⟩:=own_slice I;have H:Below w.heap.size w wr:=HJ.out.2.trans (K.mono HJ.out.2.size);have bN:=K.size;have HO:=Hk (Ai I (Ai F (Ai K H)))
  by_cases hlt:k<ts.length
  ·obtain⟨vc,vr,c0,c1,hc,hr⟩:=HT.out k hlt;have d0:=cK H ao c0;have d1:=cK H ao c1;have af:=fun W (hW:Below wr.heap.size wr W)=>right_any vc vr ts[k].1 ts[k].2 W ((hc.below H).below hW) ((hr.below H).below hW)
   have aT:=Hk hc;obtain⟨ca,cc,rfl,-⟩:=hc;obtain⟨ra,rc,rfl,-⟩:=hr;have g:=HG.out _ (List.getElem_mem hlt);simp only[g] at af;have aG:=Hk af;clear af c0 c1 I F H K g;have ah:(ts.take (k+1)).map (·.1)=(ts.take k).map (·.1)++[ts[k].1]:=by rw[List.take_succ_eq_append_getElem hlt,List.map_append];rfl
   have HM:=Hk ah;clear ah;generalize aX:ts[k].1=q1 at*;clear aX;generalize a2:ts[k].2.length=n2 at*;clear a2;go_wp2_with (first|(go_at_call 13;refine(aG.out _ (Qaa _ _)).mono ?_;rintro e w1 ⟨rfl,U⟩;obtain⟨a6,a5⟩:=QaQ U;have bE:wr.heap.size<w1.heap.size:=by(have:=U.size;simp at this;omega))|(at_builtin;refine wpList_append_own _ rfl _ _ 123 rfl J.heap.size 51 i0 (.slice none 0 0) 1 24 Tryz.underlying123 hi aF aZ aR rfl (by decide) _ _ _ rfl ((owns_below (HO.out.1.alloc _) U).alloc _) ⟨w1.heap.size,0,none⟩ 1 1 [.slice ca q1.length cc] rfl rfl (news1 _ _ _ _ rfl) (Qc4 _ _ _) ?c3 ?c4 ?c5 ?_))
   case c3=>unfold maxLen;omega
   case c4=>omega
   case c5=>have:=U.size;simp at this⊢;omega
   intro v' w5 ad Z _;obtain⟨p1,p2,p3,p4⟩:=HO.out;have al:Below J.heap.size J w5:=((bel_then (bel_box p3 _) U).alloc (by omega) _).grown Z (by simp;omega) (fun q hq=>(p1.lt q hq).1);have av:QaE w (us++[.slice ca q1.length cc]) ((ts.take (k+1)).map (·.1)):=by
    rw[HM.out];exact p2.snoc aT.out
   have HF:=Hk (Ai ad (Ai av al));clear ad Z al a6 a5 p1 p2 p3 p4 av;go_wp2;go_roundw
   case rel=>exact⟨k+1,_,by omega,by go_num,HF.out.1,HF.out.2.1,HF.out.2.2⟩
   case measure=>simp[intOf];omega
  ·have aL:k=ts.length:=by omega
   subst aL;simp only[List.take_length] at F;obtain⟨g,ak,ap,bS⟩:=QdZ (css:=ts.map (·.1)) (by simpa using I) (by simpa using aB);simp only[List.length_map,Value.slice.injEq,true_and] at ap;obtain⟨rfl,rfl⟩:=ap;have HC:=Hk (ab.out wr J.heap.size g lc us H I (F.below H));have E:=HJ.out.1.below K aJ;have j0:wr.cell? ⟨w.heap.size,0,none⟩=some (.int .i64 j.at_):=E 0 _ rfl;have j1:wr.cell? ⟨w.heap.size,1,none⟩=some (.int .i64 j.code):=E 1 _ rfl;have j2:wr.cell? ⟨w.heap.size,2,none⟩=some j.outs:=E 2 _ rfl;have j3:wr.cell? ⟨w.heap.size,3,none⟩=some j.ins:=E 3 _ rfl;have j4:wr.cell? ⟨w.heap.size,4,none⟩=some j.cols:=E 4 _ rfl;have j5:wr.cell? ⟨w.heap.size,5,none⟩=some (.string j.op):=E 5 _ rfl;have j6:wr.cell? ⟨w.heap.size,6,none⟩=some (.string j.left.1):=E 6 _ rfl;have j7:wr.cell? ⟨w.heap.size,7,none⟩=some (.int .i64 j.left.2.1):=E 7 _ rfl;have j8:wr.cell? ⟨w.heap.size,8,none⟩=some (.int .i64 j.left.2.2.1):=E 8 _ rfl;have j9:wr.cell? ⟨w.heap.size,9,none⟩=some (.string j.left.2.2.2):=E 9 _ rfl;have aI:wr.cell? ⟨w.heap.size,10,none⟩=some (.string j.right.1):=E 10 _ rfl;have aV:wr.cell? ⟨w.heap.size,11,none⟩=some (.int .i64 j.right.2.1):=E 11 _ rfl;have aM:wr.cell? ⟨w.heap.size,12,none⟩=some (.int .i64 j.right.2.2.1):=E 12 _ rfl;have a3:wr.cell? ⟨w.heap.size,13,none⟩=some (.string j.right.2.2.2):=E 13 _ rfl;have aN:wr.cell? ⟨w.heap.size,14,none⟩=some (.int .i64 j.retry):=E 14 _ rfl;have D:=Hk E;have y:=E.lt;clear E I F H K ab;go_wp2_with (go_at_call 59;refine HC.out.mono ?_;rintro e w2 ⟨vv,uu,rfl,aO,bO,h⟩;obtain⟨bM,bK,rfl⟩:=own_slice aO;have k0:=((D.out.below h y) 0 (.int .i64 j.at_) rfl);have k1:=((D.out.below h y) 1 (.int .i64 j.code) rfl);have k2:=((D.out.below h y) 2 j.outs rfl);have k3:=((D.out.below h y) 3 j.ins rfl);have k4:=((D.out.below h y) 4 j.cols rfl);have k5:=((D.out.below h y) 5 (.string j.op) rfl);have k6:=((D.out.below h y) 6 (.string j.left.1) rfl);have k7:=((D.out.below h y) 7 (.int .i64 j.left.2.1) rfl);have k8:=((D.out.below h y) 8 (.int .i64 j.left.2.2.1) rfl);have k9:=((D.out.below h y) 9 (.string j.left.2.2.2) rfl);have aQ:=((D.out.below h y) 10 (.string j.right.1) rfl);have aS:=((D.out.below h y) 11 (.int .i64 j.right.2.1) rfl);have a4:=((D.out.below h y) 12 (.int .i64 j.right.2.2.1) rfl);have aU:=((D.out.below h y) 13 (.string j.right.2.2.2) rfl);have aH:=((D.out.below h y) 14 (.int .i64 j.retry) rfl));have ag:=bel_then HO.out.2.2.2 h;have aq:=Hk (ac.out w2 ag);refine aq.out.mono ?_;rintro e w3 ⟨x1,x2,aj,ai,rfl,o1,o2,o3,o4,aP⟩;obtain⟨bT,bP,rfl⟩:=own_slice o1;obtain⟨bR,bL,rfl⟩:=own_slice o3;have aw:=bel_then ag aP;have HZ:=Hk aw;clear j0 j1 j2 j3 j4 j5 j6 j7 j8 j9 aI aV aM a3 aN k0 k1 k2 k3 k4 k5 k6 k7 k8 k9 aQ aS a4 aU aH aq ac;have bQ:(60:Int)<(aa.length:Int):=by omega
   go_wp2
   go_ret2
   exact⟨rfl,HZ.out⟩
end Go.Proofs.YtjlgejennghhlaaGreatDoor
