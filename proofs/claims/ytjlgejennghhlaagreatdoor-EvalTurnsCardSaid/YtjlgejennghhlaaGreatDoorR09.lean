import Derived.Deep.RegionHeld3
import Derived.Deep.DeepCutAuto
import Derived.Test.YtjlgejennghhlaaGreatDoorR01
import Derived.Test.YtjlgejennghhlaaGreatDoorR08
set_option linter.unusedSimpArgs false
set_option linter.unusedVariables false
set_option linter.unusedSectionVars false
set_option maxRecDepth 1000000
set_option maxHeartbeats 16000000
namespace Go.Proofs.YtjlgejennghhlaaGreatDoor
open Go.RowKit
theorem Qer (D K E O b o n c:Nat) (cs:List Cl) (j:Jb) (w:World) (h:j.code=1\/j.code=9) (aa:0<E) (ab:D<w.heap.size) (h0:w.cell? ⟨D,K,none⟩=some (.slice (some ⟨b,o,none⟩) n c)) (M:cs.length=n) (J:n<=100) (H:b<w.heap.size) (U:Qau w b o cs) (Z:j.right.2.2.2.size<=maxLen):
 Calls Tryz.prog 96 #[.agg j.cells,.slice (some ⟨D,K,none⟩) E O] w fun e w'=>e=.returned (QbN (QaX cs j))/\Below w.heap.size w w':=by
 have F:=fun W (I:Below w.heap.size w W)=>QhH b o n c cs j W M J (by have:=I.size;omega) (U.below I H) Z
 unfold Jb.cells at F⊢;generalize QaX cs j=r at*;have V:=Hk F;have htk':(0:Int)<(E:Int):=by omega
 clear F M U;obtain⟨code,y⟩:∃k,j.code=k:=⟨_,rfl⟩;rw[y] at V h⊢;clear y;rcases h with rfl|rfl
 all_goals
  go_enter Tryz.func96,Tryz.ntmps96;go_wp2_with (go_at_call 125;refine(V.out _ (Qaa _ _)).mono ?_;rintro e w1 ⟨rfl,N⟩);go_ret;exact⟨rfl,bel_then (Qaa _ _) N⟩
theorem QbF (D M E U b o n c:Nat) (cs:List Cl) (j:Jb) (w:World) (h:j.code=1\/j.code=9\/j.code=2\/j.code=4\/j.code=5\/j.code=6) (aa:0<E) (ab:D<w.heap.size) (h0:w.cell? ⟨D,M,none⟩=some (.slice (some ⟨b,o,none⟩) n c)) (F:cs.length=n) (K:n<=100) (H:b<w.heap.size) (V:Qau w b o cs):
 Calls Tryz.prog 97 #[.agg j.cells,.slice (some ⟨D,M,none⟩) E U] w fun e w'=>∃u,e=.returned u/\w'.ownsRow w.heap.size 64 2 u cs.length (Qal cs)/\Below w.heap.size w w':=by
 have I:=fun W (J:Below w.heap.size w W)=>QdK b o n c cs W F K (by have:=J.size;omega) (V.below J H)
 rw[F];unfold Jb.cells;have Z:=Hk I;have htk':(0:Int)<(E:Int):=by omega
 clear I F V;obtain⟨code,y⟩:∃k,j.code=k:=⟨_,rfl⟩;rw[y] at h⊢;clear y;rcases h with rfl|rfl|rfl|rfl|rfl|rfl
 all_goals
  go_enter Tryz.func97,Tryz.ntmps97;go_wp2_with (go_at_call 58;refine(Z.out _ (Qaa _ _)).mono ?_;rintro e w1 ⟨v1,rfl,N,O⟩);go_ret;exact⟨_,rfl,own_mono (by simp) N,bel_then (Qaa _ _) O⟩
theorem Qab.set {w:World} {B R o:Nat} {v:Value} {us:List Value} {rs:List (List Vl)} (h:Qab w B us rs) (y:R<B):Qab (w.setCell ⟨R,o,none⟩ v) B us rs:=
 ⟨h.1,fun j hj hj'=>⟨ownsRow_setCell_below (h.2 j hj hj').1 y _,(h.2 j hj hj').2⟩⟩
theorem QiT (tb y tk tcap:Nat) (vc vr:Value) (cs:List Cl) (rs:List (List Vl)) (j:Jb) (w:World) (af:j.code=1\/j.code=9) (aR:0<tk) (aa:tb<w.heap.size) (t0:w.cell? ⟨tb,y,none⟩=some vc) (t1:w.cell? ⟨tb,y+1,none⟩=some vr)
 (hc:Qax w vc cs) (hr:QaG w vr rs) (h1:1<=cs.length) (h6:cs.length<=100) (hl:∀r∈rs,r.length=cs.length) (ag:rs.length<=100) (F:QdW cs j.left) (ao:QdW cs j.right):
 Calls Tryz.prog 102 #[.agg j.cells,.slice (some ⟨tb,y,none⟩) tk tcap] w fun e w'=>∃v1 v2 O J,e=.returned (.tuple #[v1,v2,.nilIface])/\w'.ownsRow w.heap.size 84 1 v1 (rs.filter (Qbn cs j)).length O/\Qab w' w.heap.size O (rs.filter (Qbn cs j))/\w'.ownsRow w.heap.size 84 1 v2 (rs.filter (fun r=> !Qbn cs j r)).length J/\Qab w' w.heap.size J (rs.filter (fun r=> !Qbn cs j r))/\Below w.heap.size w w':=by
 have aS:=mkF;have ak:=Hk (fun W (hW:Below w.heap.size w W)=>Qa2 vr rs cs.length W (hr.below hW) hl h1 h6 ag);have am:=Hk (fun v us B I W (hW:Below w.heap.size w W) Z hH hB hj K H=>Qks v vc cs rs us j w.heap.size I B W Z hH hB hj K H (hc.below hW) h6 hl ag F ao);have htk':(0:Int)<(tk:Int):=by omega
 clear hl F ao;obtain⟨va,aj,rfl,-⟩:=hc;obtain⟨ra,ay,rfl,-⟩:=hr;have al:QaC (w.alloc (.cells j.cells 50)) w.heap.size j:=fun k v hk=>by rw[World.cell?_alloc_at _ _ _ _ rfl];exact hk
 have E:=Hk al;clear al;unfold Jb.cells at E⊢;rcases af with N|N
 all_goals
  rw[N] at E⊢;have aH:=Hk N;clear N;go_enter Tryz.func102,Tryz.ntmps102;go_wp2_with fail
  go_cut [7,8] (fun p v wx=>∃(I:Nat) (us:List Value),p=.pointer (some ⟨I,0,none⟩)/\wx.cell? ⟨I,0,none⟩=some (.slice va cs.length aj)/\I<wx.heap.size/\wx.ownsRow (w.heap.size+1) 84 1 v rs.length us/\Qab wx (w.heap.size+1) us rs/\QaC wx w.heap.size j/\Below w.heap.size w wx)
  case first=>
   go_region_held3 (fun w'=>w'.cell? ⟨tb,y,none⟩=some (.slice va cs.length aj)/\w'.cell? ⟨tb,y+1,none⟩=some (.slice ra rs.length ay))
    (first|(go_keep;done)|exact⟨(World.cell?_setCell_other _ _ _ _ (by intro e;simp at e;try omega)).trans k0,(World.cell?_setCell_other _ _ _ _ (by intro e;simp at e;try omega)).trans k1⟩)
    (first|(go_at_call 137;refine(ak.out _ (by first|exact(Qaa _ _).drew|exact(bel_box (Qaa _ _) _).drew)).mono ?_;rintro e U ⟨v1,us,rfl,F,ai,D⟩;have h:=bel_then (show Below w.heap.size w _ from(by first|exact(Qaa _ _).drew|exact(bel_box (Qaa _ _) _).drew)) D;have k0:=cK h aa t0;have k1:=cK h aa t1;have aT:tb<U.heap.size:=Nat.lt_of_lt_of_le aa h.size;(try(have kb:=(D.cell (p:=⟨w.heap.size+1,0,none⟩) (by simp)).trans (show _=some (Value.slice none 0 0) by simp);have kf:=(D.frozen (p:=⟨w.heap.size+1,0,none⟩) (by simp)).trans (show _=false by simp);have kz:w.heap.size+1<U.heap.size:=by(have:=D.size;simp at this;omega)))))
   all_goals go_wp2_with fail
   all_goals go_meet
   ·have V:QaC U w.heap.size j:=fun k v hk=>(D.cell (p:=⟨w.heap.size,k,none⟩) (by simp)).trans (by simpa using E.out k v hk)
    exact⟨U.heap.size,us,rfl,by simp,by simp,(own_mono (by simp) F).alloc _,(ai.mono (by simp)).below (Qaa _ _),V.below (Qaa _ _) (by have:=D.size;simp at this;omega),bel_box h _⟩
   ·have V:QaC U w.heap.size j:=fun k v hk=>(D.cell (p:=⟨w.heap.size,k,none⟩) (by simp;omega)).trans (by simpa using E.out k v hk)
    exact⟨w.heap.size+1,us,rfl,World.cell?_setCell_same _ _ _ kb,by simpa using kz,own_mono (by simp) (ownsRow_setCell_below F (by simp) _),(Qab.set ai (by simp)).mono (by simp),fun k v hk=>(World.cell?_setCell_other _ _ _ _ (by intro e;simp at e)).trans (V k v hk),h.setCell (by show w.heap.size<=w.heap.size+1;omega) _⟩
  case rest=>
   obtain⟨I,us,rfl,K,H,Z,hH,hJ,M⟩:=hcut;have ah:=M.size;have aF:=Hk (am.out u8 us (w.heap.size+1) I wc M Z hH (by have:=hJ.lt;omega) hJ K H);have ax:=hJ 1 (.int .i64 j.code) rfl;rw[aH.out] at ax;have HB:=Hk M;obtain⟨xa,xc,rfl⟩:=own_slice Z;clear M Z hH hJ K am ak E t0 t1;go_wp2_with (go_at_call 138;refine aF.out.mono ?_;rintro e w5 ⟨v1,v2,O,J,rfl,o1,o2,o3,o4,az⟩)
   go_ret3
   exact⟨_,_,O,J,rfl,own_mono ah o1,o2.mono (by omega),own_mono ah o3,o4.mono (by omega),bel_then HB.out az⟩
theorem Tryz.infoTab:(Tryz.prog.info? 54).map (fun i=>(i.zero,i.size,i.bytes))=some (some (.agg #[.slice none 0 0,.slice none 0 0]),2,48):=by kernel_rfl
def QaE (w:World) (us:List Value) (css:List (List Cl)):Prop:=us.length=css.length/\∀(j:Nat) (h:j<css.length),∃u,us[j]? =some u/\Qax w u css[j]
theorem QaE.below {w w':World} {us:List Value} {css:List (List Cl)} (h:QaE w us css) (E:Below w.heap.size w w'):QaE w' us css:=
 ⟨h.1,fun j hj=>by obtain⟨u,y,D⟩:=h.2 j hj;exact⟨u,y,D.below E⟩⟩
theorem QaE.snoc {w:World} {us:List Value} {css:List (List Cl)} {u:Value} {cs:List Cl} (h:QaE w us css) (E:Qax w u cs):QaE w (us++[u]) (css++[cs]):=by
 refine⟨by simp[h.1],fun j hj=>?_⟩
 by_cases hlt:j<css.length
 ·obtain⟨x,D,F⟩:=h.2 j hlt;refine⟨x,?_,?_⟩
  ·rw[List.getElem?_append_left (by rw[h.1];exact hlt)];exact D
  ·rw[List.getElem_append_left hlt];exact F
 ·have y:j=css.length:=by rw[List.length_append] at hj;simp at hj;omega
  subst y;refine⟨u,by rw[<-h.1];simp,?_⟩;simp only[List.getElem_append_right (Nat.le_refl _),Nat.sub_self,List.getElem_cons_zero];exact E
theorem QhI (tb I tcap:Nat) (ts:List Tb) (j:Jb) (w:World) (U:QaZ w tb I ts) (ab:tb<w.heap.size) (hl:ts.length<=100) (O:∃t∈ts,Qae t.1 t.2=false):
 Calls Tryz.prog 61 #[.agg j.cells,.slice (some ⟨tb,I,none⟩) ts.length tcap] w fun e w'=>e=.returned (.tuple #[.slice none 0 0,QbN 1])/\Below w.heap.size w w':=by
 obtain⟨i0,hi,ae,ai,aj⟩:=info_parts Tryz.infoCols;have HB:=Hk O;have HT:=Hk U;clear O U;unfold Jb.cells;go_enter Tryz.func61,Tryz.ntmps61;go_wp2;go_loopw [6,16] (fun l i wr=>∃(k:Nat) (us:List Value),k<=ts.length/\i=.int .i64 k/\wr.ownsRow (w.heap.size+1) 51 1 l k us/\(∀q (h:q<ts.length),q<k->Qae ts[q].1 ts[q].2=true)/\Below w.heap.size w wr) (fun _ i _=>ts.length-(intOf i).toNat)
 case atStart=>exact⟨0,[],Nat.zero_le _,rfl,World.ownsRow_nil _ _ _ _,fun q _ h=>absurd h (by omega),Qaa _ _⟩
 case round=>
  obtain⟨k,us,hk,rfl,F,H,y⟩:=hrel;obtain⟨la,lc,rfl⟩:=own_slice F;have aG:=y.size;have Z:=Hk (Ai F (Ai H y))
  by_cases hlt:k<ts.length
  ·obtain⟨vc,vr,c0,c1,hc,hr⟩:=HT.out k hlt;have d0:=cK y ab c0;have d1:=cK y ab c1;have E:=fun W (hW:Below wr.heap.size wr W)=>right_any vc vr ts[k].1 ts[k].2 W ((hc.below y).below hW) ((hr.below y).below hW)
   obtain⟨ca,cc,rfl,-⟩:=hc;obtain⟨ra,rc,rfl,-⟩:=hr
   cases g:Qae ts[k].1 ts[k].2
   ·simp only[g] at E;have N:=Hk E;clear E c0 c1 F H y g;go_wp2_with (go_at_call 13;refine(N.out _ (Qaa _ _)).mono ?_;rintro e w1 ⟨rfl,D⟩)
    go_ret2
    exact⟨rfl,bel_then (bel_box Z.out.2.2 _) D⟩
   ·simp only[g] at E;have N:=Hk E;have HG:=Hk g;clear E c0 c1 F H y g;generalize af:ts[k].1.length=n1 at*;generalize ao:ts[k].2.length=n2 at*;clear af ao;go_wp2_with (first|(go_at_call 13;refine(N.out _ (Qaa _ _)).mono ?_;rintro e w1 ⟨rfl,D⟩;obtain⟨ar,ap⟩:=QaQ D;have aC:wr.heap.size<w1.heap.size:=by(have:=D.size;simp at this;omega))|(at_builtin;refine wpList_append_own _ rfl _ _ 123 rfl (w.heap.size+1) 51 i0 (.slice none 0 0) 1 24 Tryz.underlying123 hi ae ai aj rfl (by decide) _ _ _ rfl ((owns_below (Z.out.1.alloc _) D).alloc _) ⟨w1.heap.size,0,none⟩ 1 1 [.slice ca n1 cc] rfl rfl (news1 _ _ _ _ rfl) (Qc4 _ _ _) ?c3 ?c4 ?c5 ?_))
    case c3=>unfold maxLen;omega
    case c4=>omega
    case c5=>have:=D.size;simp at this⊢;omega
    intro v' w5 J K _;obtain⟨p1,p2,p3⟩:=Z.out;have M:Below w.heap.size w w5:=((bel_then (bel_box p3 _) D).alloc (by omega) _).grown K (by simp;omega) (fun q V=>by have:=(p1.lt q V).1;omega);have HF:=Hk (Ai J M);clear J K M ar ap p1 p2 p3;go_wp2;go_roundw
    case rel=>
     refine⟨k+1,_,by omega,by go_num,HF.out.1,fun q h V=>?_,HF.out.2⟩;rcases Nat.lt_or_ge q k with aa|aa
     ·exact Z.out.2.1 q h aa
     ·obtain rfl:q=k:=by omega
      exact HG.out
    case measure=>simp[intOf];omega
  ·exfalso;obtain⟨t,U,hf⟩:=HB.out;obtain⟨q,V,rfl⟩:=List.mem_iff_getElem.1 U;have:=H q V (by omega);rw[this] at hf
   cases hf
end Go.Proofs.YtjlgejennghhlaaGreatDoor
