import Derived.Maps.Own
import Derived.Maps.OwnOps
import Derived.Maps.Ext
import Derived.Test.YtjlgejennghhlaaGreatDoorRows
import Derived.ProofKit
import Derived.OpenShut
import Derived.Stop.LaidErr
import Derived.Lib.LaidTab
import Derived.Lib.LaidU8
import Derived.Lay
import Derived.LaidLaws
import Derived.LaidHandle
import Derived.Stop.Joined
import Derived.Deep.DeepHandedRow
import Derived.Test.YtjlgejennghhlaaGreatDoorR01
import Derived.Test.YtjlgejennghhlaaGreatDoorR30
import Derived.Test.YtjlgejennghhlaaGreatDoorR19
set_option linter.unusedSimpArgs false
set_option linter.unusedVariables false
set_option linter.unusedSectionVars false
set_option maxRecDepth 1000000
set_option maxHeartbeats 16000000
namespace Go.Proofs.YtjlgejennghhlaaGreatDoor
open Go.RowKit Go.WideMaps Go.Maps
def QbW (acc:List (List UInt8)×List (List Vl)) (r:List Vl):List (List UInt8)×List (List Vl):=if acc.1.contains (QdO r)=true then acc else(acc.1++[QdO r],acc.2++[r])
def Qct (rs:List (List Vl)):List (List UInt8)×List (List Vl):=rs.foldl QbW ([],[])
theorem Qmn (rs:List (List Vl)) (k:Nat) (h:k<rs.length):Qct (rs.take (k+1))=QbW (Qct (rs.take k)) rs[k]:=by
 rw[List.take_succ_eq_append_getElem h,Qct,Qct,List.foldl_append];rfl
theorem QgZ (rs:List (List Vl)):(Qct rs).2.length<=rs.length:=by
 have h:∀(l:List (List Vl)) acc,(l.foldl QbW acc).2.length<=acc.2.length+l.length:=by
  intro l
  induction l with
  |nil=>intro acc;simp
  |cons a l ih=>
   intro acc;have:=ih (QbW acc a);have y:(QbW acc a).2.length<=acc.2.length+1:=by unfold QbW;split<;>simp
   simp only[List.foldl_cons,List.length_cons];omega
 simpa [Qct] using h rs ([],[])
theorem Qrf:Keyed Tryz.prog 9:=string_keyed Tryz.underlying9
theorem Qqu (w:World):(zeroValue 3).run Tryz.prog w=.ok (.int .i64 0) w:=by kernel_rfl
theorem QfO {w w':World} {b n:Nat} {D:DataW Unit} (h:w.ownsMap Tryz.prog 9 (plainElem Tryz.prog 3) b n D) (H:Below w.heap.size w w'):w'.ownsMap Tryz.prog 9 (plainElem Tryz.prog 3) b n D:=by
 have E:=h.lt;obtain⟨es,c,y,F⟩:=h;exact⟨es,c,(H.block b E).trans y,F⟩
def Met (D:DataW Unit) (k:Nat) (ts:List (List UInt8)):Prop:=∀t:List UInt8,∃c:Int,D.atKey (.string t) (.lit (.int .i64 0))=.lit (.int .i64 c)/\0<=c/\c<=(k:Int)/\(c=0↔ts.contains t=false)
theorem QkP (v:Value) (r:List Vl) (w:World) (J:QcA w v r) (y:0<r.length) (F:r.length<=100) (H:∀x∈r,rvB x=true) (E:Env w):
 Calls Tryz.prog 177 #[v] w fun e w'=>e=.returned (.string ⟨(QdO r).toArray⟩)/\Below w.heap.size w w':=by
 obtain⟨a,c,rfl,-,h⟩:=J;rcases h with h|⟨b,o,rfl,I,D⟩
 ·rw[h] at y;simp at y
 ·exact Qmm b o c r w I D y F H E
theorem Qmo {r:List Vl} (D:r.length<=100) (h:∀x∈r,rvB x=true):(QdO r).length<=100100:=by
 refine QlJ _ (by simpa using D) fun x hx=>?_
 obtain⟨y,E,rfl⟩:=List.mem_map.1 hx;exact QjI (h y E)
theorem Qpk {n:Int} (y:0<=n) (h:n<=1000):(Lit.int .i64 n).wf=true:=by
 have e:IntKind.i64.min= -9223372036854775808:=by decide
 simp[Lit.wf,IntKind.wrap,IntKind.signed,IntKind.bits];rw[e];omega
theorem QjJ {D:DataW Unit} {k:Nat} {ts ts':List (List UInt8)} {y:List UInt8} {c:Int} (K:IsMap D) (h:Met D k ts) (U:D.atKey (.string y) (.lit (.int .i64 0))=.lit (.int .i64 c)) (M:0<=c) (N:c<=(k:Int)) (I:ts'.contains y=true) (F:∀t,t≠y->ts'.contains t=ts.contains t):Met (D.put (.string y) (.lit (.int .i64 (c+1)))) (k+1) ts':=by
 intro t
 by_cases ht:t=y
 ·subst ht;exact⟨c+1,atKey_put_same K (by trivial) _ _,by omega,by omega,by rw[I];constructor<;>intro h<;>first|omega|cases h⟩
 ·obtain⟨d,E,J,O,H⟩:=h t;refine⟨d,?_,J,by omega,by rw[F t ht];exact H⟩;rw[atKey_put_other (by simpa using ht)];exact E
theorem QcV {w:World} {B:Nat} {e:TypeId} {z m:Nat} {u:Value} {xs:List Value} {b n:Nat} {D:DataW Unit} (h:w.ownsRow B e z u m xs) (E:w.ownsMap Tryz.prog 9 (plainElem Tryz.prog 3) b n D):u.ownBlock=none\/u.ownBlock≠some b:=by
 cases hu:u.ownBlock with
 |none=>exact Or.inl rfl
 |some g=>
  refine Or.inr fun e=>?_
  injection e with e;subst e;obtain⟨es,c,F,-⟩:=E;obtain⟨-,⟨rfl,-⟩|⟨K,I,H,rfl,J,y,-⟩⟩:=h
  ·simp[Value.ownBlock] at hu
  ·simp[Value.ownBlock] at hu;subst hu;rw[F] at y
   cases y
theorem Qab.keptMap {w w':World} {B b n:Nat} {D:DataW Unit} {us:List Value} {rs:List (List Vl)} (h:Qab w B us rs) (E:w.ownsMap Tryz.prog 9 (plainElem Tryz.prog 3) b n D) (y:w.grownBy w' (some b)):Qab w' B us rs:=
 ⟨h.1,fun j hj hj'=>⟨(h.2 j hj hj').1.kept y (QcV (h.2 j hj hj').1 E),(h.2 j hj hj').2⟩⟩
theorem QhZ (v:Value) (rs:List (List Vl)) (us:List Value) (B:Nat) (w:World) (hv:w.ownsRow B 84 1 v rs.length us) (hH:Qab w B us rs) (h1:∀r∈rs,0<r.length/\r.length<=100/\∀x∈r,rvB x=true) (bi:rs.length<=100) (hE:Env w):
 Calls Tryz.prog 146 #[v] w fun e w'=>∃v1 K,e=.returned v1/\w'.ownsRow w.heap.size 84 1 v1 (Qct rs).2.length K/\Qab w' B K (Qct rs).2/\Below w.heap.size w w':=by
 obtain⟨i0,hi,aX,a5,a1⟩:=info_parts Tryz.infoRow;have bo:=@run_makeMap Tryz.prog;have HV:=Hk (Ai hv (Ai hH (Ai h1 hE)));obtain⟨va,bj,rfl⟩:=own_slice hv;clear hv hH h1 hE;go_enter Tryz.func146,Tryz.ntmps146;go_wp2;go_loopw [4,11] (fun l i wr=>∃(k n:Nat) (D:DataW Unit) (K:List Value),k<=rs.length/\i=.int .i64 k/\n<=k/\wr.ownsMap Tryz.prog 9 (plainElem Tryz.prog 3) w.heap.size n D/\Met D k (Qct (rs.take k)).1/\wr.ownsRow (w.heap.size+1) 84 1 l (Qct (rs.take k)).2.length K/\Qab wr B K (Qct (rs.take k)).2/\Below w.heap.size w wr) (fun _ i _=>rs.length-(intOf i).toNat)
 case atStart=>exact⟨0,0,.map [],[],Nat.zero_le _,rfl,Nat.le_refl _,World.ownsMap_made _ _ _ _,fun t=>⟨0,rfl,by omega,by omega,by simp[Qct]⟩,World.ownsRow_nil _ _ _ _,Qab.nil _ _,Qaa _ _⟩
 case round=>
  obtain⟨k,n,D,K,hk,rfl,bm,ac,ab,M,I,N⟩:=hrel;obtain⟨la,lc,rfl⟩:=own_slice M;have bk:=N.size
  by_cases hlt:k<rs.length
  ·obtain⟨hv,hH,h1,hE⟩:=HV.out;obtain⟨g,c,u,aK,aW,aP,aB,aG⟩:=QlO hv hH k hlt;simp only[Value.slice.injEq,true_and] at aK;obtain⟨rfl,rfl⟩:=aK;have cu:=cK N aW aP;have huo':=owns_below aB N;obtain⟨aO,Z,ar⟩:=h1 _ (List.getElem_mem hlt);have HT:=Hk (QkP u rs[k] wr (QbE huo' aG) aO Z ar (hE.below N));have a4:=Qmo Z ar;have ad:keyOf Tryz.prog 9 (.string ⟨(QdO rs[k]).toArray⟩)=some (.string (QdO rs[k])):=keyOf_string_mk Tryz.underlying9 (by show(QdO rs[k]).toArray.size<=_;rw[List.size_toArray];unfold maxLen;omega);obtain⟨ct,aR,aM,aJ,O⟩:=ab (QdO rs[k]);have ak:=Qmn rs k hlt;obtain⟨ua,uc,rfl⟩:=own_slice aB;have a0:=QgZ (rs.take k);rw[List.length_take] at a0;have F:=Hk (Ai ac (Ai ab (Ai M (Ai I N))));have HU:=Hk (Ai huo' aG);have HA:=Hk aR;have aL:=fun W (hW:Below wr.heap.size wr W)=>(QfO F.out.1 hW).lookup_int Qrf Tryz.underlying249 Tryz.underlying3 (Qqu W) ad
   have hD:IsMap D:=ac.isMap;generalize rs[k]=r at*;generalize Qct (rs.take k)=dk at*;have az:∀(c1:Int),D.atKey (.string (QdO r)) (.lit (.int .i64 0))=.lit (.int .i64 c1)->c1=ct:=fun c1 h=>by rw[HA.out] at h;injection h with h;injection h with _ h;exact h.symm
   have aw:=Hk az;have aN:=Hk aL;have aS:=Hk hD;have a8:(k:Int)<=100:=by omega
   clear az aL hD aR ab ac M I N hv hH h1 hE aB huo' aG aP a4 aO Z ar
   cases hs:dk.1.contains (QdO r)
   ·obtain rfl:ct=0:=O.2 hs;have V:=Hk (show Qct (rs.take (k+1))=(dk.1++[QdO r],dk.2++[r]) by rw[ak,QbW,if_neg (by rw[hs];decide)]);have HS:=Hk hs;clear ak hs O;go_wp2_with (first|(go_at_call 177;refine HT.out.mono ?_;rintro e w1 ⟨rfl,E⟩;obtain⟨c1,al,U,-⟩:=aN.out w1 E;obtain rfl:=aw.out c1 U;clear U)|(at_builtin;refine wpList_append_own _ rfl _ _ 52 rfl (w.heap.size+1) 84 i0 (.slice none 0 0) 1 24 Tryz.underlying52 hi aX a5 a1 rfl (by decide) _ _ _ rfl ((owns_below F.out.2.2.1 E).alloc _) ⟨w1.heap.size,0,none⟩ 1 1 [.slice ua r.length uc] rfl rfl (news1 _ _ _ _ rfl) (Qc4 _ _ _) ?c3 ?c4 ?c5 ?_))
    case c3=>unfold maxLen;omega
    case c4=>omega
    case c5=>have:=E.size;simp;omega
    intro v' w5 ae J _;have a2:=E.size;have am:=(owns_below F.out.2.2.1 E).alloc (.cells #[.slice ua r.length uc] 84);have aH:=(QfO F.out.1 E).alloc (.cells #[.slice ua r.length uc] 84);have au:=aH.kept J (by
     rcases QcV am aH with h|h
     ·rw[h];simp
     ·exact fun e=>h e.symm)
    have av:Below w.heap.size w w5:=((bel_then F.out.2.2.2.2 E).alloc (by omega) _).grown J (by simp;omega) (fun q hq=>by have:=(F.out.2.2.1.lt q hq).1;omega);have aQ:=((F.out.2.2.2.1.below E).below (Qaa w1 (.cells #[.slice ua r.length uc] 84))).grow am J;have aD:=(owns_below HU.out.1 E).alloc (.cells #[.slice ua r.length uc] 84);have aT:=aQ.snoc (aD.kept J (Qb4 (by decide) aD am)) HU.out.2;obtain⟨c5,a9,aA,-⟩:=au.lookup_int Qrf Tryz.underlying249 Tryz.underlying3 (Qqu w5) ad;obtain rfl:=aw.out c5 aA;have HM:=Hk au;have ai:=Hk (Ai ae (Ai aT av));obtain⟨bh,bn,rfl⟩:=own_slice ae;clear ae J aH au av aQ aD aT am aA al;go_wp2_with (at_mapUpdate;refine wpList_mapUpdate_own _ rfl _ _ _ 249 rfl 9 3 Qrf Tryz.underlying249 _ w.heap.size n D rfl HM.out (by unfold maxLen;omega) _ _ (.string (QdO r)) rfl rfl ad _ [] (plainElem_int Tryz.underlying3 (Qpk (by omega) (by omega))) ?_);intro w2 H y;have af:=ai.out.2.2.grown y (by have:=ai.out.2.2.size;omega) (fun q hq=>by cases hq;exact Nat.le_refl _);have ag:=ai.out.1.kept y (QcV ai.out.1 HM.out);have ah:=ai.out.2.1.keptMap HM.out y;have HF:=Hk (Ai H (Ai ag (Ai ah af)));have aE:=Hk (QjJ (ts':=dk.1++[QdO r]) aS.out F.out.2.1 HA.out aM aJ (by simp) (fun t ht=>by simp[ht]));clear H y ag ah af;go_wp2;go_roundw
    case rel=>exact⟨k+1,n+1,_,K++[.slice ua r.length uc],by omega,by go_num,by omega,HF.out.1,by rw[V.out];exact aE.out,by rw[V.out];simpa using HF.out.2.1,by rw[V.out];exact HF.out.2.2.1,HF.out.2.2.2⟩
    case measure=>simp[intOf];omega
   ·have bp:(ct==0)=false:=by
     have:ct≠0:=fun h=>by rw[O.1 h] at hs;cases hs
     simpa using this
    have V:=Hk (show Qct (rs.take (k+1))=dk by rw[ak,QbW,if_pos hs]);have HS:=Hk hs;clear ak hs O;go_wp2_with (first|(go_at_call 177;refine HT.out.mono ?_;rintro e w1 ⟨rfl,E⟩;obtain⟨c1,al,U,-⟩:=aN.out w1 E;obtain rfl:=aw.out c1 U;clear U;have HM:=Hk (QfO F.out.1 E))|(at_mapUpdate;refine wpList_mapUpdate_own _ rfl _ _ _ 249 rfl 9 3 Qrf Tryz.underlying249 _ w.heap.size n D rfl HM.out (by unfold maxLen;omega) _ _ (.string (QdO r)) rfl rfl ad _ [] (plainElem_int Tryz.underlying3 (Qpk (by omega) (by omega))) ?_));intro w2 H y;have a2:=E.size;have af:=(bel_then F.out.2.2.2.2 E).grown y (by omega) (fun q hq=>by cases hq;exact Nat.le_refl _);have ag:=(owns_below F.out.2.2.1 E).kept y (QcV (owns_below F.out.2.2.1 E) HM.out);have ah:=(F.out.2.2.2.1.below E).keptMap HM.out y;have HF:=Hk (Ai H (Ai ag (Ai ah af)));have aE:=Hk (QjJ aS.out F.out.2.1 HA.out aM aJ HS.out (fun t _=>rfl));clear H y ag ah af;go_wp2;go_roundw
    case rel=>exact⟨k+1,n+1,_,K,by omega,by go_num,by omega,HF.out.1,by rw[V.out];exact aE.out,by rw[V.out];exact HF.out.2.1,by rw[V.out];exact HF.out.2.2.1,HF.out.2.2.2⟩
    case measure=>simp[intOf];omega
  ·have aY:k=rs.length:=by omega
   subst aY;simp only[List.take_length] at M I;have F:=Hk (Ai M (Ai I N));simp only[List.take_length];clear M I N ac ab;go_wp2;go_ret;exact⟨_,K,rfl,own_mono (by omega) F.out.1,F.out.2.1,F.out.2.2⟩
theorem Qi6 (tb y tk tcap:Nat) (vc vr:Value) (cs:List Cl) (rs:List (List Vl)) (j:Jb) (w:World) (E:j.code=6) (ac:∀r∈rs,∀x∈r,rvB x=true) (hE:Env w) (aM:0<tk) (N:tb<w.heap.size) (t0:w.cell? ⟨tb,y,none⟩=some vc) (t1:w.cell? ⟨tb,y+1,none⟩=some vr)
 (hc:Qax w vc cs) (hr:QaG w vr rs) (h1:1<=cs.length) (h6:cs.length<=100) (V:∀r∈rs,r.length=cs.length) (aa:rs.length<=100):
 Calls Tryz.prog 102 #[.agg j.cells,.slice (some ⟨tb,y,none⟩) tk tcap] w fun e w'=>∃O I,e=.returned (.tuple #[O,.slice none 0 0,.nilIface])/\w'.ownsRow w.heap.size 84 1 O (Qct rs).2.length I/\Qab w' w.heap.size I (Qct rs).2/\Below w.heap.size w w':=by
 have aN:=mkF;have ag:=Hk (fun W (hW:Below w.heap.size w W)=>Qa2 vr rs cs.length W (hr.below hW) V h1 h6 aa);have ai:=Hk (fun v us W (hW:Below w.heap.size w W) M Z=>QhZ v rs us (w.heap.size+1) W M Z (fun r hr'=>⟨by have:=V r hr';omega,by have:=V r hr';omega,ac r hr'⟩) aa (hE.below hW));have htk':(0:Int)<(tk:Int):=by omega
 clear V ac hE;obtain⟨va,ae,rfl,-⟩:=hc;obtain⟨ra,aq,rfl,-⟩:=hr;have ah:QaC (w.alloc (.cells j.cells 50)) w.heap.size j:=fun k v hk=>by rw[World.cell?_alloc_at _ _ _ _ rfl];exact hk
 have F:=Hk ah;clear ah;unfold Jb.cells at F⊢;rw[E] at F⊢;have aB:=Hk E;clear E
 all_goals
  go_enter Tryz.func102,Tryz.ntmps102;go_wp2_with fail
  go_cut [7,8] (fun p v wx=>∃(U:Nat) (us:List Value),p=.pointer (some ⟨U,0,none⟩)/\wx.cell? ⟨U,0,none⟩=some (.slice va cs.length ae)/\U<wx.heap.size/\wx.ownsRow (w.heap.size+1) 84 1 v rs.length us/\Qab wx (w.heap.size+1) us rs/\QaC wx w.heap.size j/\Below w.heap.size w wx)
  case first=>
   go_region_held3 (fun w'=>w'.cell? ⟨tb,y,none⟩=some (.slice va cs.length ae)/\w'.cell? ⟨tb,y+1,none⟩=some (.slice ra rs.length aq))
    (first|(go_keep;done)|exact⟨(World.cell?_setCell_other _ _ _ _ (by intro e;simp at e;try omega)).trans k0,(World.cell?_setCell_other _ _ _ _ (by intro e;simp at e;try omega)).trans k1⟩)
    (first|(go_at_call 137;refine(ag.out _ (by first|exact(Qaa _ _).drew|exact(bel_box (Qaa _ _) _).drew)).mono ?_;rintro e J ⟨O,us,rfl,af,ad,D⟩;have h:=bel_then (show Below w.heap.size w _ from(by first|exact(Qaa _ _).drew|exact(bel_box (Qaa _ _) _).drew)) D;have k0:=cK h N t0;have k1:=cK h N t1;have aP:tb<J.heap.size:=Nat.lt_of_lt_of_le N h.size;(try(have kb:=(D.cell (p:=⟨w.heap.size+1,0,none⟩) (by simp)).trans (show _=some (Value.slice none 0 0) by simp);have kf:=(D.frozen (p:=⟨w.heap.size+1,0,none⟩) (by simp)).trans (show _=false by simp);have kz:w.heap.size+1<J.heap.size:=by(have:=D.size;simp at this;omega)))))
   all_goals go_wp2_with fail
   all_goals go_meet
   ·have K:QaC J w.heap.size j:=fun k v hk=>(D.cell (p:=⟨w.heap.size,k,none⟩) (by simp)).trans (by simpa using F.out k v hk)
    exact⟨J.heap.size,us,rfl,by simp,by simp,(own_mono (by simp) af).alloc _,(ad.mono (by simp)).below (Qaa _ _),K.below (Qaa _ _) (by have:=D.size;simp at this;omega),bel_box h _⟩
   ·have K:QaC J w.heap.size j:=fun k v hk=>(D.cell (p:=⟨w.heap.size,k,none⟩) (by simp;omega)).trans (by simpa using F.out k v hk)
    exact⟨w.heap.size+1,us,rfl,World.cell?_setCell_same _ _ _ kb,by simpa using kz,own_mono (by simp) (ownsRow_setCell_below af (by simp) _),(Qab.set ad (by simp)).mono (by simp),fun k v hk=>(World.cell?_setCell_other _ _ _ _ (by intro e;simp at e)).trans (K k v hk),h.setCell (by show w.heap.size<=w.heap.size+1;omega) _⟩
  case rest=>
   obtain⟨U,us,rfl,ao,aC,M,Z,hJ,H⟩:=hcut;have ap:=H.size;have aA:=Hk (ai.out u8 us wc H M Z);have j1:wc.cell? ⟨w.heap.size,1,none⟩=some (.int .i64 6):=by have:=hJ 1 (.int .i64 j.code) rfl;rw[aB.out] at this;exact this
   have aO:=hJ.lt;have HB:=Hk H;obtain⟨xa,xc,rfl⟩:=own_slice M;clear H M Z hJ ao ai ag F t0 t1;go_wp2_with (go_at_call 146;refine aA.out.mono ?_;rintro e w5 ⟨O,I,rfl,o1,o2,ar⟩)
   go_ret3
   exact⟨_,I,rfl,own_mono ap o1,o2.mono (by omega),bel_then HB.out ar⟩
theorem QgD (M:Option Addr) (E F D H:Nat) (I:Value) (j:Jb) (w:World) (h:j.code=6) (K:0<D) (J:E<w.heap.size) (N:w.cell? ⟨E,F,none⟩=some I):
 Calls Tryz.prog 96 #[.agg j.cells,.slice (some ⟨E,F,none⟩) D H] w fun e w'=>e=.returned .nilIface/\Below w.heap.size w w':=by
 obtain⟨code,y⟩:∃k,j.code=k:=⟨_,rfl⟩;unfold Jb.cells;rw[y] at h⊢;clear y;subst h;have htk':(0:Int)<(D:Int):=by omega
 go_enter Tryz.func96,Tryz.ntmps96;go_wp2;go_ret;exact⟨rfl,Qaa _ _⟩
theorem QkQ {cs:List Cl} {rs:List (List Vl)} (h:Qae cs rs=true):∀r∈rs,∀x∈r,rvB x=true:=by
 intro r y x H;obtain⟨M,I,F⟩:=QaI h;obtain⟨K,J,N,E⟩:=Qan h;obtain⟨i,D,rfl⟩:=List.mem_iff_getElem.1 H;exact(QiY (F r y) i D (by rw[<-E r y];exact D)).2
end Go.Proofs.YtjlgejennghhlaaGreatDoor
namespace Go.Proofs.YtjlgejennghhlaaGreatDoor.Fw
open Go.ChangeShapes Go.WideShapes Go.ChangeAt Go.RowKit
abbrev laidF:List (String×DataW Unit):=[("math/bits.deBruijn32tab",Rows.laid_math_bits_deBruijn32tab),("math/bits.deBruijn64tab",Rows.laid_math_bits_deBruijn64tab),("internal/strconv.uint64pow10",Rows.laid_internal_strconv_uint64pow10),("strconv.ErrRange",Rows.laid_strconv_ErrRange),("strconv.ErrSyntax",Rows.laid_strconv_ErrSyntax),("foreman/flow.verbs",Rows.laid_foreman_flow_verbs),("foreman/flow.kinds",Rows.laid_foreman_flow_kinds),("foreman/flow.marks",Rows.laid_foreman_flow_marks)]
theorem ownF:ownKnob Tryz.prog.godebug=none:=by kernel_rfl
theorem Qpt: "*"++ "errors.errorString"= "*errors.errorString":=by decide
theorem Qq3 (u:TypeId) (h:Tryz.prog.typeName? 3 u=some "*errors.errorString"):u=294:=
 typeName_ptr_named (nm:= "errors.errorString") (by rw[Qpt];kernel_rfl) (by kernel_rfl) (by decide) u (by rw[Qpt];exact h)
theorem QnA:Tryz.prog.cellsOf 9=1:=by kernel_rfl
theorem Qgb {W:World} {base:Nat} {K:Nat->Bool} {held:Bool} {y n:Nat} {t:TypeId} {cs:List Value} {L:List By} {p:List MemPlace} {H:Type} {enc:TypeId×Value->H}
 (N:Tryz.prog.underlying t=some (.array n 9)) (J:Tryz.prog.cellsOf t=n)
 (h:DataW.trod enc Tryz.prog W base K held y t cs=some (.agg (L.map fun b=>.lit (.string b)),p)):cs=L.map fun b=>.string (ba b):=by
 obtain⟨xs,m,rfl,F,E,V,I⟩:=DataW.trod_array N h;simp only[Prod.mk.injEq,DataW.agg.injEq] at F;have U:L.length=n:=by
  have:=congrArg List.length F.1;simp only[List.length_map] at this;omega
 rw[J] at E;refine List.ext_getElem (by rw[List.length_map];omega) fun i h1 h2=>?_
 have O:i<n:=by omega
 have:=I i O;rw[QnA,Nat.mul_one,List.getElem?_eq_getElem (by omega)] at this;obtain⟨s,a,b,-⟩:=DataW.trod_string Tryz.underlying9 this;have M:cs[i]=.string s:=by
  have q:((cs.drop i).take 1)[0]? =some (.string s):=by rw[a];rfl
  rw[List.getElem?_take,if_pos (by decide),List.getElem?_drop,Nat.add_zero,List.getElem?_eq_getElem h1] at q;exact Option.some.inj q
 have D:(L.map fun b=>(DataW.lit (.string b):DataW H))[i]? =some (.lit (.string s.data.toList)):=by
  rw[F.1,List.getElem?_map,List.getElem?_eq_getElem (by omega),b];rfl
 rw[List.getElem?_map,List.getElem?_eq_getElem (by omega)] at D;simp only[Option.map_some,Option.some.injEq,DataW.lit.injEq,Lit.string.injEq] at D;rw[M,List.getElem_map,D]
theorem Qhl {W:World} {g:Nat} {nm:String} {cs:Array Value} {L:List By} (D:Tryz.prog.globalNamed nm=some g) (y:W.var? Tryz.prog nm=some cs) (h:cs.toList=L.map fun b=>.string (ba b)) (j:Nat) (E:j<L.length):W.cell? ⟨g,j,none⟩=some (.string (ba L[j])):=by
 have:=World.var?_cell D y j;rw[this,<-Array.getElem?_toList,h,List.getElem?_map,List.getElem?_eq_getElem E];rfl
theorem Qq4:Tryz.prog.globalNamed "foreman/flow.marks"=some 1:=by kernel_rfl
theorem Qq5:(Tryz.prog.globals[1]?).map (·.type)=some 184:=by kernel_rfl
theorem Qq6:Tryz.prog.globalNamed "foreman/flow.verbs"=some 5:=by kernel_rfl
theorem Qq7:(Tryz.prog.globals[5]?).map (·.type)=some 255:=by kernel_rfl
theorem Qqd:Tryz.prog.globalNamed "foreman/flow.kinds"=some 3:=by kernel_rfl
theorem Qqe:(Tryz.prog.globals[3]?).map (·.type)=some 194:=by kernel_rfl
theorem Qq8:Tryz.prog.globalNamed "internal/strconv.uint64pow10"=some 10:=by kernel_rfl
theorem QrM:(Tryz.prog.globals[10]?).map (·.type)=some 303:=by kernel_rfl
theorem QnB:(Rows.laid_foreman_flow_marks:DataW Unit)=.agg (QaD.map fun b=>.lit (.string b)):=rfl
theorem QnC:(Rows.laid_foreman_flow_verbs:DataW Unit)=.agg (Qdj.map fun b=>.lit (.string b)):=rfl
theorem QnD:(Rows.laid_foreman_flow_kinds:DataW Unit)=.agg (Qed.map fun b=>.lit (.string b)):=rfl
theorem fenv_of {W:World} (I:laidMet Tryz.prog laidF W):FEnv W:=by
 have M:Lib.TabIs Tryz.prog W "internal/strconv.uint64pow10" .u64 Lib.pow10Tab:=by
  obtain⟨g,t,cs,F,p,y,H,E,D⟩:=Lib.laidMet.reads I (n:= "internal/strconv.uint64pow10") (d:=Rows.laid_internal_strconv_uint64pow10) (.tail _ (.tail _ (.head _)));obtain rfl:=Option.some.inj (Qq8.symm.trans y);obtain rfl:=Option.some.inj (QrM.symm.trans H);have e:(Rows.laid_internal_strconv_uint64pow10:DataW Unit)=Lib.tabData .u64 Lib.pow10Tab:=rfl;rw[e] at D;have:=Lib.cells_of_tab Tryz.underlying303 Tryz.underlying273 (by kernel_rfl) (by kernel_rfl) D;unfold Lib.TabIs;rw[E,<-this]
 have E:∀(j:Nat) (h:j<Qdj.length),W.cell? ⟨5,j,none⟩=some (.string (ba Qdj[j])):=by
  obtain⟨g,t,cs,F,p,y,H,E,D⟩:=Lib.laidMet.reads I (n:= "foreman/flow.verbs") (d:=Rows.laid_foreman_flow_verbs) (.tail _ (.tail _ (.tail _ (.tail _ (.tail _ (.head _))))));obtain rfl:=Option.some.inj (Qq6.symm.trans y);obtain rfl:=Option.some.inj (Qq7.symm.trans H);rw[QnC] at D;exact Qhl y E (Qgb Tryz.underlying255 (by kernel_rfl) D)
 have O:∀(j:Nat) (h:j<Qed.length),W.cell? ⟨3,j,none⟩=some (.string (ba Qed[j])):=by
  obtain⟨g,t,cs,F,p,y,H,E,D⟩:=Lib.laidMet.reads I (n:= "foreman/flow.kinds") (d:=Rows.laid_foreman_flow_kinds) (.tail _ (.tail _ (.tail _ (.tail _ (.tail _ (.tail _ (.head _)))))));obtain rfl:=Option.some.inj (Qqd.symm.trans y);obtain rfl:=Option.some.inj (Qqe.symm.trans H);rw[QnD] at D;exact Qhl y E (Qgb Tryz.underlying194 (by kernel_rfl) D)
 have N:∀(j:Nat) (h:j<QaD.length),W.cell? ⟨1,j,none⟩=some (.string (ba QaD[j])):=by
  obtain⟨g,t,cs,F,p,y,H,E,D⟩:=Lib.laidMet.reads I (n:= "foreman/flow.marks") (d:=Rows.laid_foreman_flow_marks) (.tail _ (.tail _ (.tail _ (.tail _ (.tail _ (.tail _ (.tail _ (.head _))))))));obtain rfl:=Option.some.inj (Qq4.symm.trans y);obtain rfl:=Option.some.inj (Qq5.symm.trans H);rw[QnB] at D;exact Qhl y E (Qgb Tryz.underlying184 (by kernel_rfl) D)
 obtain⟨Z,tR,K,U,-,-⟩:=laid_sentinel (g:=7) I.tail.tail.tail (by kernel_rfl) (by kernel_rfl) Tryz.underlying34 Qq3 Tryz.underlying294 Tryz.underlying296 rfl rfl Tryz.underlying9 (by kernel_rfl) (by kernel_rfl);obtain⟨aS,tS,J,V,-,-⟩:=laid_sentinel (g:=6) I.tail.tail.tail.tail (by kernel_rfl) (by kernel_rfl) Tryz.underlying34 Qq3 Tryz.underlying294 Tryz.underlying296 rfl rfl Tryz.underlying9 (by kernel_rfl) (by kernel_rfl);refine⟨?_,N,E,O,⟨_,_,J⟩,⟨_,_,K⟩,M⟩;intro g y;have lt:∀(g i:Nat) (v:Value),W.cell? ⟨g,i,none⟩=some v->g<W.heap.size:=fun g i v h=>World.block_lt_of_cell? W ⟨g,i,none⟩ h
 simp only[Qa7,List.mem_cons,List.not_mem_nil,or_false] at y;rcases y with rfl|rfl|rfl|rfl|rfl|rfl
 ·exact lt _ _ _ (N 0 (by decide))
 ·exact lt _ _ _ (E 0 (by decide))
 ·exact lt _ _ _ (O 0 (by decide))
 ·exact lt _ 0 _ ((World.var?_cell (by kernel_rfl) J 0).trans rfl)
 ·exact lt _ 0 _ ((World.var?_cell (by kernel_rfl) K 0).trans rfl)
 ·exact lt _ 0 _ ((World.var?_cell Qq8 M 0).trans rfl)
theorem et:Tryz.prog.globalNamed "errors.errorType"=some 0:=by kernel_rfl
theorem rt:(Tryz.prog.cutTypes.find? (·.1== "internal/reflectlite.rtype")).map (·.2)=some 208:=by kernel_rfl
theorem QrN:Tryz.prog.types.size=337:=by kernel_rfl
theorem Qq9:((List.range 337).filter fun t=>Tryz.prog.rowNamed t [101,114,114,111,114])=[34]:=by kernel_rfl
theorem handle_of {l:List (String×DataW Unit)} {W:World} (E:("errors.errorType",Rows.laid_errors_errorType)∈l) (h:handlesMet Tryz.prog l W):W.cell? ⟨0,0,none⟩=some (.iface 208 (.agg #[.pointer (some ⟨13,34,none⟩)])):=by
 obtain⟨name,u,M,F,N,H,J,D⟩:=h _ E;have K:name=[101,114,114,111,114]:=(Option.some.inj F).symm;subst K;obtain rfl:=Option.some.inj (rt.symm.trans N);have y:M∈(List.range 337).filter fun t=>Tryz.prog.rowNamed t [101,114,114,111,114]:=List.mem_filter.2 ⟨List.mem_range.2 (by rw[<-QrN];exact H),J⟩
 rw[Qq9] at y;obtain rfl:=List.mem_singleton.1 y;have I:typeHandle Tryz.prog 34=.pointer (some ⟨13,34,none⟩):=by kernel_rfl
 rw[I] at D;simpa using World.var?_cell et D 0
end Go.Proofs.YtjlgejennghhlaaGreatDoor.Fw
