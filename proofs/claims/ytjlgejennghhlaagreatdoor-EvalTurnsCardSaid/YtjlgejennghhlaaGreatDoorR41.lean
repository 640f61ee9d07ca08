import Derived.Lib.OwnBridge
import Derived.Deep.RegionLaw
import Derived.Deep.AppendLies
import Derived.Test.YtjlgejennghhlaaGreatDoorR01
import Derived.Test.YtjlgejennghhlaaGreatDoorR40
import Derived.Test.YtjlgejennghhlaaGreatDoorR13
set_option linter.unusedSimpArgs false
set_option linter.unusedVariables false
set_option linter.unusedSectionVars false
set_option maxRecDepth 1000000
set_option maxHeartbeats 16000000
namespace Go.Proofs.YtjlgejennghhlaaGreatDoor.Pl
open Go.RowKit
open Fw (By FJob Flw ba)
theorem all_step {α:Type} {p:α->Bool} {l:List α} {k:Nat} (h:k<l.length) (D:(l.take k).all p=true) (y:p l[k]=true):(l.take (k+1)).all p=true:=by
 rw[List.take_succ_eq_append_getElem h,List.all_append,D];simp[y]
theorem QoI {α:Type} {p:α->Bool} {l:List α} {k:Nat} (h:k<l.length) (y:p l[k]=false):l.all p=false:=by
 rw[List.all_eq_false];exact⟨_,List.getElem_mem h,by rw[y];decide⟩
theorem Qnc (f:Flw) (H vj E v:Value) (l:List Nat) (k:Nat) (w:World) (h:Fw.FlowRd w f H vj E) (hf:Fw.FlwOK f) (hk:k<f.jobs.length) (hl:Qc8 w v l) (aj:∀k∈l,k<f.jobs.length) (aN:l.length<=100):
 Calls Tryz.prog 56 #[.agg #[H,vj,E],.int .i64 (k:Nat),v] w fun e w'=>e=.returned (.bool (QeS f k l))/\Below w.heap.size w w':=by
 obtain⟨b,c,rfl,aG,hb,ao,ai,ac,ax,ho,hi,hc⟩:=Qf2 h hk;have aD:QeS f k l=f.jobs[k].ins.all fun n=>Qhq f n||l.any (mkB f n):=by unfold QeS;rw[List.getElem?_eq_getElem hk]
 have aE:=(hf.jobs _ (List.getElem_mem hk)).il;obtain⟨D,aA⟩:∃x,w.alloc (.cells #[H,.slice (some ⟨b,0,none⟩) f.jobs.length c,E] 29)=x:=⟨_,rfl⟩;have K:Below w.heap.size w D:=by rw[<-aA];exact Qaa _ _
 have am:Qcx D w.heap.size H (.slice (some ⟨b,0,none⟩) f.jobs.length c) E:=by rw[<-aA];exact Qcx.new _ _ _ _ _
 have M:=Hk (Ai K (Ai (h.below K) (Ai am (hl.below K))));have HS:Hid (∀V,Below D.heap.size D V->V.cell? ⟨w.heap.size,0,none⟩=some H/\V.cell? ⟨w.heap.size,1,none⟩=some (.slice (some ⟨b,0,none⟩) f.jobs.length c)/\V.cell? ⟨w.heap.size,2,none⟩=some E):=Hk fun V hV=>am.below hV
 have HJ:Hid (∀V,Calls Tryz.prog 91 #[.agg #[H,.slice (some ⟨b,0,none⟩) f.jobs.length c,E],.int .i64 (k:Nat)] V fun e w'=>e=.returned (.bool true)/\Below V.heap.size V w'):=Hk fun V=>Qii H E _ _ c k V hk
 have HI:=Hk (hi.below K);have ay:w.cell? ⟨b,k*15+3,none⟩=some ai:=ax 3 _ rfl;have HD:Hid (∀V,Below D.heap.size D V->V.cell? ⟨b,k*15+3,none⟩=some ai):=Hk fun V hV=>cell_below (cell_below ay K) hV
 obtain⟨na,nc,rfl⟩:=strs_slice hi;have HG:Hid (∀V,Below D.heap.size D V->∀nm,Calls Tryz.prog 93 #[.agg #[H,.slice (some ⟨b,0,none⟩) f.jobs.length c,E],.string (ba nm)] V fun e w'=>e=.returned (.bool (Qhq f nm))/\Below V.heap.size V w'):=Hk fun V hV nm=>given_any f H _ E nm V (M.out.2.1.below hV) hf.il
 have HM:Hid (∀V,Below D.heap.size D V->∀nm N,V.cell? ⟨N,0,none⟩=some (.string (ba nm))->Calls Tryz.prog 94 #[v,.func (.func 92) #[] #[.pointer (some ⟨w.heap.size,0,none⟩),.pointer (some ⟨N,0,none⟩)]] V fun e w'=>e=.returned (.bool (l.any (mkB f nm)))/\Below V.heap.size V w'):=Hk fun V hV nm N hN=>Qnb f H _ E v l w.heap.size N nm V (M.out.2.1.below hV) hf (M.out.2.2.1.below hV) hN (M.out.2.2.2.below hV) aj aN
 have bg:=mkF;have HR:=Hk aD;obtain⟨va,vc,rfl⟩:=QcM hl;have bf:(k:Int)<(f.jobs.length:Int):=by omega
 obtain⟨L,hL⟩:∃L,f.jobs[k].ins=L:=⟨_,rfl⟩;rw[hL] at HR HI HD aE;have aV:Hid (∀nm,Qhq f nm=Qhq f nm):=Hk fun _=>rfl
 clear aD h hf hl aj ax ho hi hc ay am hL aV;obtain⟨n,hn⟩:∃n,L.length=n:=⟨_,rfl⟩;have HN:=Hk hn;rw[hn] at aE HI HD;have J:=HS.out D (Below.refl _ _);have g1:=J.1;have g2:=J.2.1;have g3:=J.2.2;clear hn J;go_enter Tryz.func56,Tryz.ntmps56;go_wp2_with (first|(go_at_call 91;refine(HJ.out _).mono ?_;rintro e w2 ⟨rfl,af⟩;have aQ:=Hk af;have d1:=HD.out w2 af;have g4:=HS.out w2 af;have g5:=g4.2.1;clear af g4));clear g1 g2 g3 d1 g5;go_loopw [21] (fun i wr=>∃q:Nat,q<=n/\i=.int .i64 q/\(L.take q).all (fun n=>Qhq f n||l.any (mkB f n))=true/\Below D.heap.size D wr) (fun i _=>n-(intOf i).toNat)
 case atStart=>exact⟨0,Nat.zero_le _,rfl,rfl,aQ.out⟩
 case round=>
  obtain⟨q,hq,rfl,aB,ae⟩:=hrel;have HA:=Hk aB;clear aB
  by_cases aj:q<n
  ·have I:q<L.length:=by have:=HN.out;omega
   rcases HI.out with ⟨-,e0⟩|⟨nb,no,bd,e0,aG,aR,ad⟩
   ·rw[e0] at I;exact absurd I (by simp)
   simp only[Value.slice.injEq] at e0;obtain⟨rfl,-,rfl⟩:=e0;have e1:=(ae.cell (p:=⟨nb,no+q,none⟩) aR).trans (ad q I);obtain⟨nm,ah⟩:∃nm,L[q]=nm:=⟨_,rfl⟩;rw[ah] at e1;have F:Hid (∀r,(Qhq f nm||l.any (mkB f nm))=r->(fun n=>Qhq f n||l.any (mkB f n)) L[q]=r):=Hk (fun r hr=>by rw[ah];exact hr);obtain⟨w3,aC⟩:∃x,wr.alloc (.cells #[.string (ba nm)] 9)=x:=⟨_,rfl⟩;have O:Below D.heap.size D w3:=by rw[<-aC];exact bel_then ae (Qaa _ _)
   have J:=HS.out w3 O;have g1:=J.1;have g2:=J.2.1;have g3:=J.2.2;have az:w3.cell? ⟨wr.heap.size,0,none⟩=some (.string (ba nm)):=by rw[<-aC];exact World.cell?_alloc_at _ _ _ _ rfl
   have be:=Hk az;have ab:=Hk (HG.out w3 O nm);have al:=Hk O;have aa:Hid (∀V,Below w3.heap.size w3 V->Calls Tryz.prog 94 #[.slice va l.length vc,.func (.func 92) #[] #[.pointer (some ⟨w.heap.size,0,none⟩),.pointer (some ⟨wr.heap.size,0,none⟩)]] V fun e w'=>e=.returned (.bool (l.any (mkB f nm)))/\Below V.heap.size V w'):=Hk fun V hV=>HM.out V (bel_then O hV) nm wr.heap.size (cell_below az hV)
   clear J O ad ae ah;generalize ba nm=x at*
   cases hg:Qhq f nm with
   |true=>
    rw[hg] at ab F;have HP:=Hk (F.out true rfl);clear hg F aa;go_wp2_with (first|(go_at_call 93;refine ab.out.mono ?_;rintro e w4 ⟨rfl,y⟩;have U:=Hk (bel_then al.out y);clear y));go_roundw
    case rel=>exact⟨q+1,by omega,by go_num,all_step I HA.out HP.out,U.out⟩
    case measure=>simp[intOf];omega
   |false=>
    rw[hg] at ab F
    cases hm:l.any (mkB f nm) with
    |true=>
     rw[hm] at aa F;have HP:=Hk (F.out true rfl);clear hg hm F;go_wp2_with (first|(go_at_call 93;refine ab.out.mono ?_;rintro e w4 ⟨rfl,y⟩;have ak:=Hk (aa.out w4 y);have U:=Hk (bel_then al.out y);clear y)|(go_at_call 94;refine ak.out.mono ?_;rintro e w5 ⟨rfl,Z⟩;have ap:=Hk (bel_then U.out Z);clear Z));go_roundw
     case rel=>exact⟨q+1,by omega,by go_num,all_step I HA.out HP.out,ap.out⟩
     case measure=>simp[intOf];omega
    |false=>
     rw[hm] at aa F;have HP:=Hk (F.out false rfl);clear hg hm F;go_wp2_with (first|(go_at_call 93;refine ab.out.mono ?_;rintro e w4 ⟨rfl,y⟩;have ak:=Hk (aa.out w4 y);have U:=Hk (bel_then al.out y);clear y)|(go_at_call 94;refine ak.out.mono ?_;rintro e w5 ⟨rfl,Z⟩;have ap:=Hk (bel_then U.out Z);clear Z));go_ret;exact⟨ret_bool (by rw[HR.out,QoI I HP.out]),M.out.1.trans (ap.out.mono M.out.1.size)⟩
  ·go_wp2;go_ret;exact⟨ret_bool (by have:=HA.out;rw[List.take_of_length_le (by have:=HN.out;omega)] at this;rw[HR.out,this]),M.out.1.trans (ae.mono M.out.1.size)⟩
end Go.Proofs.YtjlgejennghhlaaGreatDoor.Pl
namespace Go.Proofs.YtjlgejennghhlaaGreatDoor.Pl
open Go.RowKit
open Fw (By FJob Flw ba)
theorem QeT (l:List Nat):intCells l=(l.map fun(k:Nat)=>(k:Int)).map (Value.int .i64):=by simp[intCells]
theorem Qc8.of {w:World} {B:Nat} {v:Value} {l:List Nat} (h:w.ownsRow B 3 1 v l.length (intCells l)):Qc8 w v l:=by
 have E:=h;obtain⟨-,⟨rfl,y⟩|⟨g,D,F,rfl,J,I,y,H,-,-⟩⟩:=h
 ·exact Or.inl ⟨rfl,List.length_eq_zero_iff.1 y⟩
 ·refine Or.inr ⟨g,0,D,rfl,y,(E.lt g rfl).2,fun j hj=>?_⟩;rw[Nat.zero_add,E.cellAt j (by omega)];simp[intCells,List.getElem?_eq_getElem hj]
theorem Qnd {w:World} {g q:Nat} {d:Array Int}:w.grownBy (Sort.putRow (Value.int .i64) (Sort.ahead w q) g 0 d) (some g):=
 ⟨rfl,rfl,rfl,by simp[Sort.putRow,Sort.mapBlock,Sort.ahead],fun k hk hne=>by
  simp[Sort.putRow,Sort.mapBlock,Sort.ahead,Array.getElem?_modify,show g≠k by rintro rfl;exact hne rfl]⟩
theorem QpU (B i:Nat) (y:Value) (left:List Nat) (w:World) (O:i<left.length) (V:left.length<=1000) (h:w.ownsRow B 3 1 y left.length (intCells left)):
 Calls Tryz.prog 57 #[y,.int .i64 (i:Nat),.int .i64 ((i:Int)+1)] w fun e w'=>∃lv',e=.returned lv'/\w'.ownsRow B 3 1 lv' (left.eraseIdx i).length (intCells (left.eraseIdx i))/\lv'.ownBlock=y.ownBlock/\w.grownBy w' y.ownBlock:=by
 rw[show((i:Int)+1)=((i+1:Nat):Int) by omega];rw[QeT] at h;obtain⟨g,D,rfl,Z,hg,J,K,E,M⟩:=Lib.holds_of_ownsRow h (by
  intro e;obtain⟨-,⟨-,J⟩|⟨g,D,U,N,-⟩⟩:=h
  ·omega
  ·rw[N] at e;cases e)
 have I:=Tryz.slices_Delete_int g 0 D i (i+1) (left.map fun(k:Nat)=>(k:Int)) w M (by rw[E];exact J) (by unfold maxLen at K;omega) (by omega) (by rw[E];omega);rw[E] at I;refine I.mono ?_;rintro e w' ⟨rfl,q,rfl⟩;have F:((left.map fun(k:Nat)=>(k:Int)).take i++(left.map fun(k:Nat)=>(k:Int)).drop (i+1)++List.replicate (i+1-i) (0:Int)).length=left.length:=by simp;omega
 have H:=Lib.ownsRow_putRow (q:=q) (k:=left.length-1) h F (by omega);have he:(((left.map fun(k:Nat)=>(k:Int)).take i++(left.map fun(k:Nat)=>(k:Int)).drop (i+1)++List.replicate (i+1-i) (0:Int)).take (left.length-1)).map (Value.int .i64)=intCells (left.eraseIdx i):=by
  rw[List.take_left' (by simp;omega),QeT,List.eraseIdx_eq_take_drop_succ];simp
 rw[he] at H;refine⟨_,rfl,?_,rfl,Qnd⟩;rw[List.length_eraseIdx_of_lt O,show left.length-(i+1-i)=left.length-1 by omega];exact H
theorem Qk7 (f:Flw) (J E I v:Value) (l:List Nat) (F T k:Nat) (w:World) (h:Fw.FlowRd w f J E I) (M:Fw.FlwOK f) (y:Qcx w F J E I) (hT:w.cell? ⟨T,0,none⟩=some v) (O:k<f.jobs.length) (H:Qc8 w v l) (D:∀k∈l,k<f.jobs.length) (K:l.length<=100):
 Calls Tryz.prog 55 #[.int .i64 (k:Nat),.pointer (some ⟨F,0,none⟩),.pointer (some ⟨T,0,none⟩)] w fun e w'=>e=.returned (.bool (QeS f k l))/\Below w.heap.size w w':=by
 have U:=Hk (Qnc f J E I v l k w h M O H D K);have g1:=y.1;have g2:=y.2.1;have g3:=y.2.2;obtain⟨V,jc,rfl⟩:=row_slice h.jobs;obtain⟨ia,ic,rfl⟩:=row_slice h.ins;obtain⟨oa,Z,rfl⟩:=row_slice h.outs;obtain⟨va,vc,rfl⟩:=QcM H;clear h M y H D;go_enter Tryz.func55,Tryz.ntmps55;go_wp2_with (first|(go_at_call 56;refine U.out.mono ?_;rintro e w2 ⟨rfl,N⟩));go_ret;exact⟨rfl,N⟩
theorem QoJ {p:Nat->Bool} {l:List Nat} {k:Nat} (h:k<l.length) (D:(l.take k).any p=false) (y:p l[k]=true):l.findIdx? p=some k:=by
 rw[List.findIdx?_eq_some_iff_getElem];refine⟨h,y,fun j hj=>?_⟩;have:=List.any_eq_false.1 D l[j] (by
  rw[List.mem_iff_getElem];exact⟨j,by simp;omega,by simp⟩)
 exact this
theorem Qne {p:Nat->Bool} {l:List Nat} (h:l.any p=false):l.findIdx? p=none:=by
 rw[List.findIdx?_eq_none_iff];intro x y;simpa using List.any_eq_false.1 h x y
theorem Qnf (f:Flw) (vi Z vo v lv:Value) (l left:List Nat) (F T:Nat) (w:World) (h:Fw.FlowRd w f vi Z vo) (hf:Fw.FlwOK f) (hF:Qcx w F vi Z vo) (hT:w.cell? ⟨T,0,none⟩=some v) (hl:Qc8 w v l) (J:∀k∈l,k<f.jobs.length) (al:l.length<=100) (hL:Qc8 w lv left) (O:∀k∈left,k<f.jobs.length) (U:left.length<=100):
 Calls Tryz.prog 54 #[lv,.func (.func 55) #[] #[.pointer (some ⟨F,0,none⟩),.pointer (some ⟨T,0,none⟩)]] w fun e w'=>∃r:Int,e=.returned (.int .i64 r)/\((∃i:Nat,r=(i:Int)/\(left.findIdx? fun k=>QeS f k l)=some i)\/(r= -1/\(left.findIdx? fun k=>QeS f k l)=none))/\Below w.heap.size w w':=by
 obtain⟨ia,ic,rfl⟩:=QcM hL;obtain⟨n,hn⟩:∃n,left.length=n:=⟨_,rfl⟩;have HN:=Hk hn;have HL:=Hk hL;have HQ:Hid (∀V,Below w.heap.size w V->∀k,k<f.jobs.length->Calls Tryz.prog 55 #[.int .i64 (k:Nat),.pointer (some ⟨F,0,none⟩),.pointer (some ⟨T,0,none⟩)] V fun e w'=>e=.returned (.bool (QeS f k l))/\Below V.heap.size V w'):=Hk fun V hV k hk=>Qk7 f vi Z vo v l F T k V (h.below hV) hf (hF.below hV) (cell_below hT hV) hk (hl.below hV) J al
 have ag:=Hk O;rw[hn] at U⊢;clear hn h hF hT hl hf J hL O;go_enter Tryz.func54,Tryz.ntmps54;go_wp2;go_loopw [8] (fun i wr=>∃k:Nat,k<=n/\i=.int .i64 k/\(left.take k).any (fun k=>QeS f k l)=false/\Below w.heap.size w wr) (fun i _=>n-(intOf i).toNat)
 case atStart=>exact⟨0,Nat.zero_le _,rfl,rfl,Below.refl _ _⟩
 case round=>
  obtain⟨k,hk,rfl,N,D⟩:=hrel;have HA:=Hk N;clear N
  by_cases J:k<n
  ·have y:k<left.length:=by have:=HN.out;omega
   rcases HL.out with ⟨-,M⟩|⟨b,o,c',M,av,hb,I⟩
   ·rw[M] at y;exact absurd y (by simp)
   simp only[Value.slice.injEq] at M;obtain⟨rfl,-,rfl⟩:=M;have e1:=(D.cell (p:=⟨b,o+k,none⟩) hb).trans (I k y);have HC:=Hk (HQ.out wr D left[k] (ag.out _ (List.getElem_mem y)));have H:=Hk D;clear D I
   cases hp:QeS f left[k] l
   all_goals have HP:=Hk hp
   all_goals rw[hp] at HC
   all_goals clear hp
   ·go_wp2_with (go_at_call 55;refine HC.out.mono ?_;rintro e w2 ⟨rfl,E⟩;have K:=Hk (H.out.trans (E.mono H.out.size));clear E);go_roundw
    case rel=>exact⟨k+1,by omega,by go_num,any_step y HA.out HP.out,K.out⟩
    case measure=>simp[intOf];omega
   ·go_wp2_with (go_at_call 55;refine HC.out.mono ?_;rintro e w2 ⟨rfl,E⟩;have K:=Hk (H.out.trans (E.mono H.out.size));clear E);go_ret;exact⟨k,rfl,Or.inl ⟨k,rfl,QoJ y HA.out HP.out⟩,K.out⟩
  ·go_wp2;go_ret;exact⟨-1,rfl,Or.inr ⟨rfl,Qne (by have:=HA.out;rwa[List.take_of_length_le (by have:=HN.out;omega)] at this)⟩,D⟩
end Go.Proofs.YtjlgejennghhlaaGreatDoor.Pl
namespace Go.Proofs.YtjlgejennghhlaaGreatDoor.Pl
open Go.RowKit
open Fw (By FJob Flw ba)
theorem QeU (l:List Nat) (k:Nat):intCells (l++[k])=intCells l++[.int .i64 (k:Int)]:=by simp[intCells]
structure OrdS (w1 wr:World) (T B:Nat) (lv tv:Value) (left told:List Nat):Prop where
 low:Below w1.heap.size w1 wr
 box:Fw.Box wr T [tv]
 left:wr.ownsRow B 3 1 lv left.length (intCells left)
 told:wr.ownsRow B 3 1 tv told.length (intCells told)
 apart:lv.ownBlock=none\/lv.ownBlock≠tv.ownBlock
theorem OrdS.below {F wr w':World} {T B:Nat} {D E:Value} {left told:List Nat} (h:OrdS F wr T B D E left told) (y:Below wr.heap.size wr w'):OrdS F w' T B D E left told:=
 ⟨bel_then h.low y,h.box.below y,owns_below h.left y,owns_below h.told y,h.apart⟩
theorem OrdS.del {F wr w':World} {T B:Nat} {H E D:Value} {left told y:List Nat} (h:OrdS F wr T B H E left told) (N:T<B) (J:F.heap.size<=B) (I:wr.grownBy w' H.ownBlock) (M:w'.ownsRow B 3 1 D y.length (intCells y)) (K:D.ownBlock=H.ownBlock):OrdS F w' T B D E y told:=by
 refine⟨h.low.grown I h.low.size (fun q hq=>Nat.le_trans J (h.left.lt q hq).1),h.box.grown I (fun e=>by have:=(h.left.lt T e).1;omega),M,?_,by rw[K];exact h.apart⟩;refine h.told.kept I ?_;rcases h.apart with e|e
 ·cases hx:E.ownBlock with
  |none=>exact Or.inl rfl
  |some g=>exact Or.inr (by rw[e];simp)
 ·exact Or.inr (fun q=>e q.symm)
theorem OrdS.tell {E wr D:World} {T B g F k:Nat} {I H:Value} {left told:List Nat} (h:OrdS E wr T B I H left told) (O:T<B) (ac:E.heap.size<=T) (N:D.ownsRow B 3 1 (.slice (some ⟨g,0,none⟩) (told.length+1) F) (told.length+1) (intCells told++[.int .i64 (k:Int)])) (J:(wr.alloc (.cells #[.int .i64 (k:Int)] 3)).grownBy D H.ownBlock) (U:H.ownBlock=some g\/g=wr.heap.size+1):
 OrdS E (D.setCell ⟨T,0,none⟩ (.slice (some ⟨g,0,none⟩) (told.length+1) F)) T B I (.slice (some ⟨g,0,none⟩) (told++[k]).length F) left (told++[k]):=by
 have Z:=h.low.size;have aa:=h.told.alloc (.cells #[.int .i64 (k:Int)] 3);have y:Below E.heap.size E D:=(h.low.alloc (by omega) _).grown J (by simp;omega) (fun q hq=>by have:=(h.told.lt q hq).1;omega);have M:Fw.Box D T [H]:=(h.box.below (Qaa _ _)).grown J (fun e=>by have:=(h.told.lt T e).1;omega);have ab:B<=g:=(N.lt g rfl).1;have K:D.ownsRow B 3 1 I left.length (intCells left):=by
  refine(h.left.alloc (.cells #[.int .i64 (k:Int)] 3)).kept J ?_;rcases h.apart with e|e
  ·exact Or.inl e
  ·exact Or.inr e
 refine⟨?_,by rw[List.length_append];exact M.set 0 _,?_,?_,?_⟩
 ·exact⟨y.os,y.tape,y.output,by simpa [World.setCell] using y.size,fun q hq=>(Below.heap_setCell _ _ _ _ (show q≠T by omega)).trans (y.block q hq)⟩
 ·exact ownsRow_setCell_below K (a:=⟨T,0,none⟩) O _
 ·rw[QeU,List.length_append];exact ownsRow_setCell_below N (a:=⟨T,0,none⟩) O _
 ·rcases h.apart with e|e
  ·exact Or.inl e
  ·refine Or.inr ?_;simp only[Value.ownBlock];rcases U with q|q
   ·rw[<-q];exact e
   ·intro V;have:=(h.left.lt g V).2;omega
def QrS:Value->Nat
 |.slice _ n _=>n
 |_=>0
def Qr3 (f:Flw) (w:World) (e:Ending) (w':World):Prop:=Below w.heap.size w w'/\
 ((Qjb f=none/\∃ev,e=.returned (.tuple #[.slice none 0 0,ev])/\AtV w' ev 11)\/
  (∃o tv,Qjb f=some o/\e=.returned (.tuple #[tv,.nilIface])/\w'.ownsRow w.heap.size 3 1 tv o.length (intCells o)))
theorem QoK {told left:List Nat} {i x k:Nat} (h:(told++left).Perm (List.range k)) (y:i<left.length) (D:left[i]=x):((told++[x])++left.eraseIdx i).Perm (List.range k):=by
 rw[List.append_assoc,<-D];exact(List.Perm.append_left told (Qdw left i y)).trans h
theorem QoL {f:Flw} {told left:List Nat} {i x:Nat} {r:Option (List Nat)} (h:QgI f left.length left told=r) (D:(left.findIdx? fun k=>QeS f k told)=some i) (y:i<left.length) (E:left[i]=x):QgI f (left.eraseIdx i).length (left.eraseIdx i) (told++[x])=r:=by
 rw[<-h,List.length_eraseIdx_of_lt y];rw[show QgI f left.length left told=QgI f ((left.length-1)+1) left told by rw[Nat.sub_add_cancel (by omega)]]
 conv=>rhs;unfold QgI
 rw[D];simp only[List.getD_eq_getElem?_getD,List.getElem?_eq_getElem y,E,Option.getD_some]
theorem Qij (f:Flw) (vi vj vo:Value) (w:World) (h:Fw.FlowRd w f vi vj vo) (hf:Fw.FlwOK f):
 Calls Tryz.prog 20 #[.agg #[vi,vj,vo]] w fun e w'=>Qr3 f w e w':=by
 obtain⟨i0,hi,aZ,a7,a2⟩:=info_parts Tryz.infoInt;obtain⟨ja,jc,rfl⟩:=row_slice h.jobs;obtain⟨J,hJ⟩:∃J,f.jobs.length=J:=⟨_,rfl⟩;have bM:J<=16:=by rw[<-hJ];exact hf.jl
 rw[hJ] at h⊢;obtain⟨D,ax⟩:∃x,w.alloc (.cells #[vi,.slice ja J jc,vo] 29)=x:=⟨_,rfl⟩;have ar:Below w.heap.size w D:=by rw[<-ax];exact Qaa _ _
 have a3:D.heap.size=w.heap.size+1:=by rw[<-ax];simp
 have aJ:Qcx D w.heap.size vi (.slice ja J jc) vo:=by rw[<-ax];exact Qcx.new _ _ _ _ _
 obtain⟨H,av⟩:∃x,D.alloc (.cells #[.slice none 0 0] 73)=x:=⟨_,rfl⟩;have aE:Below D.heap.size D H:=by rw[<-av];exact Qaa _ _
 have aV:H.heap.size=w.heap.size+2:=by rw[<-av];simp;omega
 have aY:Fw.Box H D.heap.size [.slice none 0 0]:=by rw[<-av];exact Fw.Box.new D _ _ _ rfl
 have am:=Hk ar;have a0:=Hk aE;have bE:=Hk aY;have aX:=Hk aJ;have HH:=Hk (Ai (h.below ar) hf);have HJ:=Hk hJ;have ae:=Hk a3;have U:=Hk aV;have g1:=(aJ.below aE).2.1;have b4:=mkF;clear h hf hJ ar aE aY aJ a3 aV;go_enter Tryz.func20,Tryz.ntmps20;go_wp2;go_loopw [4,11] (fun l i wr=>∃k:Nat,k<=J/\i=.int .i64 k/\wr.ownsRow H.heap.size 3 1 l k (intCells (List.range k))/\Below H.heap.size H wr) (fun _ i _=>J-(intOf i).toNat)
 case atStart=>exact⟨0,Nat.zero_le _,rfl,World.ownsRow_nil _ _ _ _,Below.refl _ _⟩
 case round=>
  obtain⟨k,hk,rfl,N,Z⟩:=hrel;obtain⟨la,lc,rfl⟩:=own_slice N;have HX:=Hk (Ai N Z);have bZ:=Z.size
  by_cases hlt:k<J
  ·have HT:=Hk (show intCells (List.range k)++[.int .i64 ((k:Nat):Int)]=intCells (List.range (k+1)) by rw[List.range_succ,QeU]);clear N Z;go_wp2_with (first|(at_builtin;refine wpList_append_own _ rfl _ _ 73 rfl H.heap.size 3 i0 (.int .i64 0) 1 8 Tryz.underlying73 hi aZ a7 a2 rfl (by decide) _ _ _ rfl (HX.out.1.alloc _) ⟨wr.heap.size,0,none⟩ 1 1 [.int .i64 (k:Int)] rfl rfl (news1 _ _ _ _ rfl) (QpA _ _) ?c3 ?c4 ?c5 ?_))
   case c3=>unfold maxLen;omega
   case c4=>omega
   case c5=>simp;omega
   intro v' w5 ad ak _;have aB:Below H.heap.size H w5:=(HX.out.2.alloc (by omega) _).grown ak (by simp;omega) (fun q hq=>(HX.out.1.lt q hq).1);rw[HT.out] at ad;have HF:=Hk (Ai ad aB);clear ad ak aB;go_wp2;go_roundw
   case rel=>exact⟨k+1,by omega,by go_num,HF.out.1,HF.out.2⟩
   case measure=>simp[intOf];omega
  ·obtain rfl:k=J:=by omega
   have hO:OrdS D wr D.heap.size H.heap.size (.slice la k lc) (.slice none 0 0) (List.range k) []:=by
    refine⟨a0.out.trans (Z.mono a0.out.size),bE.out.below Z,?_,World.ownsRow_nil _ _ _ _,?_⟩
    ·rw[List.length_range];exact N
    ·cases hx:(Value.slice la k lc).ownBlock with
     |none=>exact Or.inl rfl
     |some g=>exact Or.inr (by simp[Value.ownBlock])
   have HO:=Hk hO;have bm:Hid (QgI f (List.range k).length (List.range k) []=Qjb f):=Hk (by rw[List.length_range,<-HJ.out];rfl);clear N Z hO HX;go_wp2;obtain⟨wa,a9⟩:∃x,x=wr:=⟨_,rfl⟩;rw[<-a9] at HO⊢;clear a9;go_loopw [4] (fun lv wr=>∃(left told:List Nat) (tv:Value),OrdS D wr D.heap.size H.heap.size lv tv left told/\(told++left).Perm (List.range k)/\QgI f left.length left told=Qjb f) (fun lv _=>QrS lv)
   case atStart=>exact⟨List.range k,[],_,HO.out,by simp,bm.out⟩
   case round=>
    obtain⟨left,told,tv,I,y,ab⟩:=hrel;obtain⟨la,lc,rfl⟩:=own_slice I.left;have HS:=Hk I;have HP:=Hk y;have HD:=Hk ab;have aI:Below w.heap.size w wr:=am.out.trans (I.low.mono am.out.size);have b2:left.length<=16:=by
     have:=y.length_eq;rw[List.length_append,List.length_range] at this;omega
    have b3:told.length<=16:=by
     have:=y.length_eq;rw[List.length_append,List.length_range] at this;omega
    have K:∀q,q∈told\/q∈left->q<f.jobs.length:=fun q hq=>by
     rw[HJ.out,<-List.mem_range,<-y.mem_iff,List.mem_append];exact hq
    have au:=aX.out.below I.low;have hT:=I.box.cell 0 (v:=tv) rfl;have b0:=I.low.size
    by_cases hlt:0<left.length
    ·have HI:=Hk (Qnf f vi (.slice ja k jc) vo tv (.slice la left.length lc) told left w.heap.size D.heap.size wr (HH.out.1.below I.low) HH.out.2 au hT (Qc8.of I.told) (fun q hq=>K q (Or.inl hq)) (by omega) (Qc8.of I.left) (fun q hq=>K q (Or.inr hq)) (by omega));have HM:=Hk K;have bR:(0:Int)<(left.length:Int):=by omega
     clear I y ab aI K au hT;go_wp2_with (first|(go_at_call 54;fail));refine HI.out.mono ?_;rintro e4 E ⟨r,rfl,hr,bb⟩;have M:=Hk (HS.out.below bb);clear bb HI;rcases hr with ⟨i,rfl,aa⟩|⟨rfl,aa⟩
     ·have b5:¬((i:Int)<0):=by omega
      obtain⟨ag,-,-⟩:=List.findIdx?_eq_some_iff_getElem.1 aa;have F:=Hk (M.out.below ((Below.refl _ E).drew));obtain⟨g,gc,e0,bH,bq,af⟩:=QdL F.out.left hlt;simp only[Value.slice.injEq,true_and] at e0;obtain⟨rfl,rfl⟩:=e0;have cG:=af i ag;rw[Nat.zero_add] at cG;have cT:=F.out.box.cell 0 (v:=tv) rfl;have lT:=F.out.box.lt;obtain⟨x,hx⟩:∃x,left[i]=x:=⟨_,rfl⟩;rw[hx] at cG;have b6:(i:Int)<(left.length:Int):=by omega
      obtain⟨ta,tc,rfl⟩:=own_slice F.out.told;have bx:H.heap.size<=E.drew.heap.size:=by have:=F.out.low.size;have:=lT;have:=ae.out;have:=U.out;omega
      have cA:(E.alloc (.cells #[.int .i64 (x:Int)] 3)).drew.cell? ⟨D.heap.size,0,none⟩=some (.slice ta told.length tc):=by
       show(E.drew.alloc (.cells #[.int .i64 (x:Int)] 3)).cell? ⟨D.heap.size,0,none⟩=_
       rw[World.cell?_alloc_lt _ _ ⟨D.heap.size,0,none⟩ lT];exact cT
      have HX:=Hk hx;have bC:=Hk aa;clear af hx aa HS M;go_wp2_with fail;go_region_law (first|(refine step_append_lies _ (by rfl) _ _ _ (by rfl) H.heap.size 3 i0 _ 1 8 Tryz.underlying73 hi aZ a7 a2 rfl (by decide) (.slice ta told.length tc) told.length _ (by rfl) (F.out.told.alloc _) ⟨E.drew.heap.size,0,none⟩ 1 1 [.int .i64 (x:Int)] (by rfl) (by rfl) (news1 _ _ _ _ rfl) (QpA _ _) (by decide) (by unfold maxLen;omega) (by omega) (Nat.le_trans bx (by simp)) (E.drew.heap.size+1) (by simp) ?_;intro gg b7 w5 al O aK bP;have X5:=(F.out.box.below (Qaa _ (.cells #[.int .i64 (x:Int)] 3))).grown O (fun e=>by have:=(F.out.told.lt _ e).1;have:=ae.out;have:=U.out;omega);have c5:=X5.cell 0 (v:=.slice ta told.length tc) rfl;have f5:=X5.fz 0;have aA:=Hk (F.out.tell (by have:=ae.out;have:=U.out;omega) (Nat.le_refl _) al O aK);clear al O aK X5))
      all_goals clear c5 f5
      all_goals
       have a1:=Hk (QpU H.heap.size i (.slice (some ⟨g,0,none⟩) left.length lc) left _ ag (by omega) aA.out.left)
      all_goals go_wp2_with (first|(go_at_call 57;fail))
      all_goals refine a1.out.mono ?_
      all_goals rintro e6 w6 ⟨bV,rfl,aG,aW,a4⟩
      all_goals have bB:=Hk (aA.out.del (by have:=ae.out;have:=U.out;omega) (by have:=ae.out;have:=U.out;omega) a4 aG aW)
      all_goals obtain⟨bW,b1,rfl⟩:=own_slice aG
      all_goals clear aG aW a4 a1 aA
      all_goals go_wp2
      all_goals go_roundw
      all_goals first
       |exact⟨left.eraseIdx i,told++[x],_,bB.out,QoK HP.out ag HX.out,QoL HD.out bC.out ag HX.out⟩
       |(simp only[QrS];rw[List.length_eraseIdx_of_lt ag];omega)
     ·have aD:Hid (Qjb f=none):=Hk (by
       rw[<-HD.out,show left.length=(left.length-1)+1 by omega];unfold QgI;rw[aa])
      obtain⟨g,gc,e0,bH,bq,af⟩:=QdL M.out.left hlt;simp only[Value.slice.injEq,true_and] at e0;obtain⟨rfl,rfl⟩:=e0;have bd:left[0]<f.jobs.length:=HM.out _ (Or.inr (List.getElem_mem hlt));obtain⟨b,c,e1,bJ,hb,ao,ai,ac,aT,-,-,-⟩:=Qf2 (HH.out.1.below M.out.low) bd;simp only[Value.slice.injEq] at e1;obtain⟨rfl,-,rfl⟩:=e1;have q1:=(aX.out.below M.out.low).2.1;have q2:=af 0 hlt;have q3:E.cell? ⟨b,left[0]*15+0,none⟩=some (.int .i64 (f.jobs[left[0]].at_:Nat)):=aT 0 _ rfl;rw[Nat.add_zero] at q2 q3;have bn:((left[0]:Nat):Int)<(k:Int):=by have:=HJ.out;omega
      generalize f.jobs[left[0]].at_=pl at*;obtain⟨x,hx⟩:∃x,left[0]=x:=⟨_,rfl⟩;rw[hx] at q2 q3 bn;have aH:Hid (∀V,Below E.heap.size E V->V.cell? ⟨w.heap.size,1,none⟩=some (.slice (some ⟨b,0,none⟩) k jc)/\V.cell? ⟨g,0,none⟩=some (.int .i64 (x:Int))/\V.cell? ⟨b,x*15,none⟩=some (.int .i64 (pl:Nat))):=Hk fun V hV=>⟨cell_below q1 hV,cell_below q2 hV,cell_below q3 hV⟩
      have G0:=Hk (aH.out E.drew (Below.refl _ E).drew);have a5:Hid (Below w.heap.size w E):=Hk (am.out.trans (M.out.low.mono am.out.size));have br:Hid (∀V,Calls Tryz.prog 51 #[.int .i64 11,.int .i64 (pl:Nat)] V fun e w'=>∃p,e=.returned (.iface 100 (.pointer (some ⟨p,0,none⟩)))/\AtV w' (.iface 100 (.pointer (some ⟨p,0,none⟩))) 11/\Below V.heap.size V w'):=Hk fun V=>Qih 11 pl V
      clear af q1 q2 q3 aT hx aa HS M;go_wp2_with fail
      go_region_held3 (fun V=>V.cell? ⟨w.heap.size,1,none⟩=some (.slice (some ⟨b,0,none⟩) k jc)/\V.cell? ⟨g,0,none⟩=some (.int .i64 (x:Int))/\V.cell? ⟨b,x*15,none⟩=some (.int .i64 (pl:Nat))) (first|exact G0.out|exact G1.out) (first|(go_at_call 51;refine(br.out _).mono ?_;rintro e5 w5 ⟨p,rfl,aU,a8⟩;have a6:=Hk (show Below E.heap.size E w5 from((Below.refl _ E).drew).trans a8);have G1:=Hk (aH.out w5 a6.out);have bo:=Hk aU;clear aU a8))
      all_goals go_wp2
      all_goals refine bodyPost_ret (v:=.tuple #[.slice none 0 0,.iface 100 (.pointer (some ⟨p,0,none⟩))]) (by simp[results,Tryz.results20,go_sem]) rfl ?_
      all_goals exact⟨a5.out.trans (a6.out.mono a5.out.size),Or.inl ⟨aD.out,_,rfl,bo.out⟩⟩
    ·have bY:¬(0:Int)<(left.length:Int):=by omega
     have bj:left=[]:=List.length_eq_zero_iff.1 (by omega);have aD:Hid (Qjb f=some told):=Hk (by rw[<-ab,bj];rfl);have bX:=I.box.cell 0 (v:=tv) rfl;have bA:=Hk aI;obtain⟨ta,tc,rfl⟩:=own_slice I.told;clear I y ab aI K au hT;go_wp2;refine bodyPost_ret (v:=.tuple #[.slice ta told.length tc,.nilIface]) (by simp[results,Tryz.results20,go_sem]) rfl ?_;exact⟨bA.out,Or.inr ⟨told,_,aD.out,rfl,own_mono (by have:=U.out;omega) HS.out.told⟩⟩
end Go.Proofs.YtjlgejennghhlaaGreatDoor.Pl
