import Derived.Maps.Own
import Derived.Maps.OwnOps
import Derived.Maps.Ext
import Derived.Lib.ItoaLen
import Derived.Shelf.SlSortCmp.QuietGrown
import Derived.Shelf.Strings.Builder1
import Derived.Shelf.Strings.Builder2
import Derived.Shelf.Strings.OnBuilder
import Derived.Shelf.Small.Strs
import Derived.Shelf.Strings.BuilderF
import Derived.Shelf.Strings.BuilderK
import Derived.Shelf.Strconv.Atoi
import Derived.Shelf.Strconv.Itoa0
import Derived.Shelf.Strconv.Itoa1
import Derived.Shelf.LaysM
import Derived.Shelf.Strconv.Itoa2
import Derived.Shelf.Strconv.Itoa3
import Derived.Shelf.Strconv.AtoiErrFast
import Derived.Shelf.Strconv.ParseIntEmpty
import Derived.Shelf.Strconv.AtoiFail
import Derived.Shelf.Strconv.Clone
import Derived.Shelf.Strconv.SyntaxError
import Derived.Shelf.LaysC
import Derived.Shelf.Strconv.ToError
import Derived.Shelf.Strconv.Lower
import Derived.Shelf.Strconv.ParseUint10
import Derived.Shelf.Strconv.ParseUint10Empty
import Derived.Shelf.Strconv.ParseUint10Any
import Derived.Shelf.Strconv.ParseInt10
import Derived.Shelf.Strconv.AtoiLong
import Derived.Shelf.Strconv.AtoiInnerAll
import Derived.Shelf.Strconv.RangeError
import Derived.Shelf.Strconv.ToErrorRange
import Derived.Shelf.Strconv.AtoiAll
import Derived.Shelf.Strconv.ErrVarAll
import Derived.Shelf.Strings.Search1
import Derived.Shelf.Strings.Search2
import Derived.Shelf.Strings.Search3
import Derived.Shelf.Strings.Cut
import Derived.Shelf.Strings.Count
import Derived.Shelf.Strings.Shaped
import Derived.Shelf.Strings.Prefix
import Derived.Shelf.Strings.Split
import Derived.Shelf.Strings.SplitShaped
import Derived.Shelf.Unicode.DecodeSlow
import Derived.Shelf.Slices.Turned
import Derived.Ground.Names2Prog
import Derived.Shelf.Slices.Delete
import Derived.Shelf.Slices.Cells
import Derived.Shelf.Slices.Empties
import Derived.Test.YtjlgejennghhlaaGreatDoorProg
import Derived.Deep.RegionHeld3
import Derived.Deep.MidRow
import Derived.Test.YtjlgejennghhlaaGreatDoorQ01
import Derived.Test.YtjlgejennghhlaaGreatDoorQ28
import Derived.Test.YtjlgejennghhlaaGreatDoorQ39
set_option linter.unusedSimpArgs false
set_option linter.unusedVariables false
set_option linter.unusedSectionVars false
set_option maxRecDepth 1000000
set_option maxHeartbeats 16000000
namespace Go.Proofs.YtjlgejennghhlaaGreatDoor
open Go.RowKit Go.WideMaps Go.Maps
def QbS (acc:List (List UInt8)×List (List Vl)) (r:List Vl):List (List UInt8)×List (List Vl):=if acc.1.contains (QdJ r)=true then acc else(acc.1++[QdJ r],acc.2++[r])
def Qcr (rs:List (List Vl)):List (List UInt8)×List (List Vl):=rs.foldl QbS ([],[])
theorem Ql9 (rs:List (List Vl)) (k:Nat) (h:k<rs.length):Qcr (rs.take (k+1))=QbS (Qcr (rs.take k)) rs[k]:=by
 rw[List.take_succ_eq_append_getElem h,Qcr,Qcr,List.foldl_append];rfl
theorem QgU (rs:List (List Vl)):(Qcr rs).2.length<=rs.length:=by
 have h:∀(l:List (List Vl)) acc,(l.foldl QbS acc).2.length<=acc.2.length+l.length:=by
  intro l
  induction l with
  |nil=>intro acc;simp
  |cons a l ih=>
   intro acc;have:=ih (QbS acc a);have y:(QbS acc a).2.length<=acc.2.length+1:=by unfold QbS;split<;>simp
   simp only[List.foldl_cons,List.length_cons];omega
 simpa [Qcr] using h rs ([],[])
theorem Qq7:Keyed Tryz.prog 9:=string_keyed Tryz.underlying9
theorem Qqm (w:World):(zeroValue 3).run Tryz.prog w=.ok (.int .i64 0) w:=by kernel_rfl
theorem QfL {w w':World} {b n:Nat} {D:DataW Unit} (h:w.ownsMap Tryz.prog 9 (plainElem Tryz.prog 3) b n D) (I:Below w.heap.size w w'):w'.ownsMap Tryz.prog 9 (plainElem Tryz.prog 3) b n D:=by
 have F:=h.lt;obtain⟨es,c,y,H⟩:=h;exact⟨es,c,(I.block b F).trans y,H⟩
def Met (D:DataW Unit) (k:Nat) (ts:List (List UInt8)):Prop:=∀t:List UInt8,∃c:Int,D.atKey (.string t) (.lit (.int .i64 0))=.lit (.int .i64 c)/\0<=c/\c<=(k:Int)/\(c=0↔ts.contains t=false)
theorem QkD (v:Value) (r:List Vl) (w:World) (K:Qcw w v r) (y:0<r.length) (H:r.length<=100) (I:∀x∈r,rvB x=true) (F:Env w):
 Calls Tryz.prog 177 #[v] w fun e w'=>e=.returned (.string ⟨(QdJ r).toArray⟩)/\Below w.heap.size w w':=by
 obtain⟨a,c,rfl,-,h⟩:=K;rcases h with h|⟨b,o,rfl,J,D⟩
 ·rw[h] at y;simp at y
 ·exact Ql8 b o c r w J D y H I F
theorem Qma {r:List Vl} (D:r.length<=100) (h:∀x∈r,rvB x=true):(QdJ r).length<=100100:=by
 refine Qlv _ (by simpa using D) fun x hx=>?_
 obtain⟨y,F,rfl⟩:=List.mem_map.1 hx;exact Qju (h y F)
theorem Qpe {n:Int} (y:0<=n) (h:n<=1000):(Lit.int .i64 n).wf=true:=by
 have e:IntKind.i64.min= -9223372036854775808:=by decide
 simp[Lit.wf,IntKind.wrap,IntKind.signed,IntKind.bits];rw[e];omega
theorem Qjv {D:DataW Unit} {k:Nat} {ts ts':List (List UInt8)} {y:List UInt8} {c:Int} (M:IsMap D) (h:Met D k ts) (V:D.atKey (.string y) (.lit (.int .i64 0))=.lit (.int .i64 c)) (N:0<=c) (O:c<=(k:Int)) (J:ts'.contains y=true) (H:∀t,t≠y->ts'.contains t=ts.contains t):Met (D.put (.string y) (.lit (.int .i64 (c+1)))) (k+1) ts':=by
 intro t
 by_cases ht:t=y
 ·subst ht;exact⟨c+1,atKey_put_same M (by trivial) _ _,by omega,by omega,by rw[J];constructor<;>intro h<;>first|omega|cases h⟩
 ·obtain⟨d,F,K,U,I⟩:=h t;refine⟨d,?_,K,by omega,by rw[H t ht];exact I⟩;rw[atKey_put_other (by simpa using ht)];exact F
theorem QcS {w:World} {B:Nat} {e:TypeId} {z m:Nat} {u:Value} {xs:List Value} {b n:Nat} {D:DataW Unit} (h:w.ownsRow B e z u m xs) (F:w.ownsMap Tryz.prog 9 (plainElem Tryz.prog 3) b n D):u.ownBlock=none\/u.ownBlock≠some b:=by
 cases hu:u.ownBlock with
 |none=>exact Or.inl rfl
 |some g=>
  refine Or.inr fun e=>?_
  injection e with e;subst e;obtain⟨es,c,H,-⟩:=F;obtain⟨-,⟨rfl,-⟩|⟨M,J,I,rfl,K,y,-⟩⟩:=h
  ·simp[Value.ownBlock] at hu
  ·simp[Value.ownBlock] at hu;subst hu;rw[H] at y
   cases y
theorem Qab.keptMap {w w':World} {B b n:Nat} {D:DataW Unit} {us:List Value} {rs:List (List Vl)} (h:Qab w B us rs) (F:w.ownsMap Tryz.prog 9 (plainElem Tryz.prog 3) b n D) (y:w.grownBy w' (some b)):Qab w' B us rs:=
 ⟨h.1,fun j hj hj'=>⟨(h.2 j hj hj').1.kept y (QcS (h.2 j hj hj').1 F),(h.2 j hj hj').2⟩⟩
theorem QhT (v:Value) (rs:List (List Vl)) (us:List Value) (B:Nat) (w:World) (hv:w.ownsRow B 84 1 v rs.length us) (hH:Qab w B us rs) (h1:∀r∈rs,0<r.length/\r.length<=100/\∀x∈r,rvB x=true) (bj:rs.length<=100) (hE:Env w):
 Calls Tryz.prog 146 #[v] w fun e w'=>∃v1 M,e=.returned v1/\w'.ownsRow w.heap.size 84 1 v1 (Qcr rs).2.length M/\Qab w' B M (Qcr rs).2/\Below w.heap.size w w':=by
 obtain⟨i0,hi,aY,a6,a2⟩:=info_parts Tryz.infoRow;have bp:=@run_makeMap Tryz.prog;have HV:=Hk (Ai hv (Ai hH (Ai h1 hE)));obtain⟨va,bk,rfl⟩:=own_slice hv;clear hv hH h1 hE;go_enter Tryz.func146,Tryz.ntmps146;go_wp2;go_loopw [4,11] (fun l i wr=>∃(k n:Nat) (D:DataW Unit) (M:List Value),k<=rs.length/\i=.int .i64 k/\n<=k/\wr.ownsMap Tryz.prog 9 (plainElem Tryz.prog 3) w.heap.size n D/\Met D k (Qcr (rs.take k)).1/\wr.ownsRow (w.heap.size+1) 84 1 l (Qcr (rs.take k)).2.length M/\Qab wr B M (Qcr (rs.take k)).2/\Below w.heap.size w wr) (fun _ i _=>rs.length-(intOf i).toNat)
 case atStart=>exact⟨0,0,.map [],[],Nat.zero_le _,rfl,Nat.le_refl _,World.ownsMap_made _ _ _ _,fun t=>⟨0,rfl,by omega,by omega,by simp[Qcr]⟩,World.ownsRow_nil _ _ _ _,Qab.nil _ _,Qaa _ _⟩
 case round=>
  obtain⟨k,n,D,M,hk,rfl,bn,ad,ac,N,J,O⟩:=hrel;obtain⟨la,lc,rfl⟩:=own_slice N;have bm:=O.size
  by_cases hlt:k<rs.length
  ·obtain⟨hv,hH,h1,hE⟩:=HV.out;obtain⟨g,c,u,aL,aX,aQ,aC,aH⟩:=QlA hv hH k hlt;simp only[Value.slice.injEq,true_and] at aL;obtain⟨rfl,rfl⟩:=aL;have cu:=cK O aX aQ;have huo':=owns_below aC O;obtain⟨aP,aa,au⟩:=h1 _ (List.getElem_mem hlt);have HT:=Hk (QkD u rs[k] wr (QbB huo' aH) aP aa au (hE.below O));have a5:=Qma aa au;have ae:keyOf Tryz.prog 9 (.string ⟨(QdJ rs[k]).toArray⟩)=some (.string (QdJ rs[k])):=keyOf_string_mk Tryz.underlying9 (by show(QdJ rs[k]).toArray.size<=_;rw[List.size_toArray];unfold maxLen;omega);obtain⟨ct,aS,aN,aK,U⟩:=ac (QdJ rs[k]);have al:=Ql9 rs k hlt;obtain⟨ua,uc,rfl⟩:=own_slice aC;have a1:=QgU (rs.take k);rw[List.length_take] at a1;have H:=Hk (Ai ad (Ai ac (Ai N (Ai J O))));have HU:=Hk (Ai huo' aH);have HA:=Hk aS;have aM:=fun W (hW:Below wr.heap.size wr W)=>(QfL H.out.1 hW).lookup_int Qq7 Tryz.underlying249 Tryz.underlying3 (Qqm W) ae
   have hD:IsMap D:=ad.isMap;generalize rs[k]=r at*;generalize Qcr (rs.take k)=dk at*;have aA:∀(c1:Int),D.atKey (.string (QdJ r)) (.lit (.int .i64 0))=.lit (.int .i64 c1)->c1=ct:=fun c1 h=>by rw[HA.out] at h;injection h with h;injection h with _ h;exact h.symm
   have ax:=Hk aA;have aO:=Hk aM;have aT:=Hk hD;have a9:(k:Int)<=100:=by omega
   clear aA aM hD aS ac ad N J O hv hH h1 hE aC huo' aH aQ a5 aP aa au
   cases hs:dk.1.contains (QdJ r)
   ·obtain rfl:ct=0:=U.2 hs;have Z:=Hk (show Qcr (rs.take (k+1))=(dk.1++[QdJ r],dk.2++[r]) by rw[al,QbS,if_neg (by rw[hs];decide)]);have HS:=Hk hs;clear al hs U;go_wp2_with (first|(go_at_call 177;refine HT.out.mono ?_;rintro e w1 ⟨rfl,F⟩;obtain⟨c1,am,V,-⟩:=aO.out w1 F;obtain rfl:=ax.out c1 V;clear V)|(at_builtin;refine wpList_append_own _ rfl _ _ 52 rfl (w.heap.size+1) 84 i0 (.slice none 0 0) 1 24 Tryz.underlying52 hi aY a6 a2 rfl (by decide) _ _ _ rfl ((owns_below H.out.2.2.1 F).alloc _) ⟨w1.heap.size,0,none⟩ 1 1 [.slice ua r.length uc] rfl rfl (news1 _ _ _ _ rfl) (Qc2 _ _ _) ?c3 ?c4 ?c5 ?_))
    case c3=>unfold maxLen;omega
    case c4=>omega
    case c5=>have:=F.size;simp;omega
    intro v' w5 af K _;have a3:=F.size;have ao:=(owns_below H.out.2.2.1 F).alloc (.cells #[.slice ua r.length uc] 84);have aI:=(QfL H.out.1 F).alloc (.cells #[.slice ua r.length uc] 84);have av:=aI.kept K (by
     rcases QcS ao aI with h|h
     ·rw[h];simp
     ·exact fun e=>h e.symm)
    have aw:Below w.heap.size w w5:=((bel_then H.out.2.2.2.2 F).alloc (by omega) _).grown K (by simp;omega) (fun q hq=>by have:=(H.out.2.2.1.lt q hq).1;omega);have aR:=((H.out.2.2.2.1.below F).below (Qaa w1 (.cells #[.slice ua r.length uc] 84))).grow ao K;have aE:=(owns_below HU.out.1 F).alloc (.cells #[.slice ua r.length uc] 84);have aU:=aR.snoc (aE.kept K (Qb2 (by decide) aE ao)) HU.out.2;obtain⟨c5,bb,aB,-⟩:=av.lookup_int Qq7 Tryz.underlying249 Tryz.underlying3 (Qqm w5) ae;obtain rfl:=ax.out c5 aB;have HM:=Hk av;have aj:=Hk (Ai af (Ai aU aw));obtain⟨bi,bo,rfl⟩:=own_slice af;clear af K aI av aw aR aE aU ao aB am;go_wp2_with (at_mapUpdate;refine wpList_mapUpdate_own _ rfl _ _ _ 249 rfl 9 3 Qq7 Tryz.underlying249 _ w.heap.size n D rfl HM.out (by unfold maxLen;omega) _ _ (.string (QdJ r)) rfl rfl ae _ [] (plainElem_int Tryz.underlying3 (Qpe (by omega) (by omega))) ?_);intro w2 I y;have ag:=aj.out.2.2.grown y (by have:=aj.out.2.2.size;omega) (fun q hq=>by cases hq;exact Nat.le_refl _);have ah:=aj.out.1.kept y (QcS aj.out.1 HM.out);have ai:=aj.out.2.1.keptMap HM.out y;have HF:=Hk (Ai I (Ai ah (Ai ai ag)));have aF:=Hk (Qjv (ts':=dk.1++[QdJ r]) aT.out H.out.2.1 HA.out aN aK (by simp) (fun t ht=>by simp[ht]));clear I y ah ai ag;go_wp2;go_roundw
    case rel=>exact⟨k+1,n+1,_,M++[.slice ua r.length uc],by omega,by go_num,by omega,HF.out.1,by rw[Z.out];exact aF.out,by rw[Z.out];simpa using HF.out.2.1,by rw[Z.out];exact HF.out.2.2.1,HF.out.2.2.2⟩
    case measure=>simp[intOf];omega
   ·have bq:(ct==0)=false:=by
     have:ct≠0:=fun h=>by rw[U.1 h] at hs;cases hs
     simpa using this
    have Z:=Hk (show Qcr (rs.take (k+1))=dk by rw[al,QbS,if_pos hs]);have HS:=Hk hs;clear al hs U;go_wp2_with (first|(go_at_call 177;refine HT.out.mono ?_;rintro e w1 ⟨rfl,F⟩;obtain⟨c1,am,V,-⟩:=aO.out w1 F;obtain rfl:=ax.out c1 V;clear V;have HM:=Hk (QfL H.out.1 F))|(at_mapUpdate;refine wpList_mapUpdate_own _ rfl _ _ _ 249 rfl 9 3 Qq7 Tryz.underlying249 _ w.heap.size n D rfl HM.out (by unfold maxLen;omega) _ _ (.string (QdJ r)) rfl rfl ae _ [] (plainElem_int Tryz.underlying3 (Qpe (by omega) (by omega))) ?_));intro w2 I y;have a3:=F.size;have ag:=(bel_then H.out.2.2.2.2 F).grown y (by omega) (fun q hq=>by cases hq;exact Nat.le_refl _);have ah:=(owns_below H.out.2.2.1 F).kept y (QcS (owns_below H.out.2.2.1 F) HM.out);have ai:=(H.out.2.2.2.1.below F).keptMap HM.out y;have HF:=Hk (Ai I (Ai ah (Ai ai ag)));have aF:=Hk (Qjv aT.out H.out.2.1 HA.out aN aK HS.out (fun t _=>rfl));clear I y ah ai ag;go_wp2;go_roundw
    case rel=>exact⟨k+1,n+1,_,M,by omega,by go_num,by omega,HF.out.1,by rw[Z.out];exact aF.out,by rw[Z.out];exact HF.out.2.1,by rw[Z.out];exact HF.out.2.2.1,HF.out.2.2.2⟩
    case measure=>simp[intOf];omega
  ·have aZ:k=rs.length:=by omega
   subst aZ;simp only[List.take_length] at N J;have H:=Hk (Ai N (Ai J O));simp only[List.take_length];clear N J O ad ac;go_wp2;go_ret;exact⟨_,M,rfl,own_mono (by omega) H.out.1,H.out.2.1,H.out.2.2⟩
theorem QiT (tb y tk tcap:Nat) (vc vr:Value) (cs:List Cl) (rs:List (List Vl)) (j:Jb) (w:World) (F:j.code=6) (ad:∀r∈rs,∀x∈r,rvB x=true) (hE:Env w) (aN:0<tk) (O:tb<w.heap.size) (t0:w.cell? ⟨tb,y,none⟩=some vc) (t1:w.cell? ⟨tb,y+1,none⟩=some vr)
 (hc:Qax w vc cs) (hr:QaG w vr rs) (h1:1<=cs.length) (h6:cs.length<=100) (Z:∀r∈rs,r.length=cs.length) (ac:rs.length<=100):
 Calls Tryz.prog 102 #[.agg j.cells,.slice (some ⟨tb,y,none⟩) tk tcap] w fun e w'=>∃U J,e=.returned (.tuple #[U,.slice none 0 0,.nilIface])/\w'.ownsRow w.heap.size 84 1 U (Qcr rs).2.length J/\Qab w' w.heap.size J (Qcr rs).2/\Below w.heap.size w w':=by
 have aO:=mkF;have ah:=Hk (fun W (hW:Below w.heap.size w W)=>Qa0 vr rs cs.length W (hr.below hW) Z h1 h6 ac);have aj:=Hk (fun v us W (hW:Below w.heap.size w W) N hH=>QhT v rs us (w.heap.size+1) W N hH (fun r hr'=>⟨by have:=Z r hr';omega,by have:=Z r hr';omega,ad r hr'⟩) ac (hE.below hW));have htk':(0:Int)<(tk:Int):=by omega
 clear Z ad hE;obtain⟨va,af,rfl,-⟩:=hc;obtain⟨ra,ar,rfl,-⟩:=hr;have ai:QaC (w.alloc (.cells j.cells 50)) w.heap.size j:=fun k v hk=>by rw[World.cell?_alloc_at _ _ _ _ rfl];exact hk
 have H:=Hk ai;clear ai;unfold Jb.cells at H⊢;rw[F] at H⊢;have aC:=Hk F;clear F
 all_goals
  go_enter Tryz.func102,Tryz.ntmps102;go_wp2_with fail
  go_cut [7,8] (fun p v wx=>∃(V:Nat) (us:List Value),p=.pointer (some ⟨V,0,none⟩)/\wx.cell? ⟨V,0,none⟩=some (.slice va cs.length af)/\V<wx.heap.size/\wx.ownsRow (w.heap.size+1) 84 1 v rs.length us/\Qab wx (w.heap.size+1) us rs/\QaC wx w.heap.size j/\Below w.heap.size w wx)
  case first=>
   go_region_held3 (fun w'=>w'.cell? ⟨tb,y,none⟩=some (.slice va cs.length af)/\w'.cell? ⟨tb,y+1,none⟩=some (.slice ra rs.length ar))
    (first|(go_keep;done)|exact⟨(World.cell?_setCell_other _ _ _ _ (by intro e;simp at e;try omega)).trans k0,(World.cell?_setCell_other _ _ _ _ (by intro e;simp at e;try omega)).trans k1⟩)
    (first|(go_at_call 137;refine(ah.out _ (by first|exact(Qaa _ _).drew|exact(bel_box (Qaa _ _) _).drew)).mono ?_;rintro e K ⟨U,us,rfl,ag,ae,D⟩;have h:=bel_then (show Below w.heap.size w _ from(by first|exact(Qaa _ _).drew|exact(bel_box (Qaa _ _) _).drew)) D;have k0:=cK h O t0;have k1:=cK h O t1;have aQ:tb<K.heap.size:=Nat.lt_of_lt_of_le O h.size;(try(have kb:=(D.cell (p:=⟨w.heap.size+1,0,none⟩) (by simp)).trans (show _=some (Value.slice none 0 0) by simp);have kf:=(D.frozen (p:=⟨w.heap.size+1,0,none⟩) (by simp)).trans (show _=false by simp);have kz:w.heap.size+1<K.heap.size:=by(have:=D.size;simp at this;omega)))))
   all_goals go_wp2_with fail
   all_goals go_meet
   ·have M:QaC K w.heap.size j:=fun k v hk=>(D.cell (p:=⟨w.heap.size,k,none⟩) (by simp)).trans (by simpa using H.out k v hk)
    exact⟨K.heap.size,us,rfl,by simp,by simp,(own_mono (by simp) ag).alloc _,(ae.mono (by simp)).below (Qaa _ _),M.below (Qaa _ _) (by have:=D.size;simp at this;omega),bel_box h _⟩
   ·have M:QaC K w.heap.size j:=fun k v hk=>(D.cell (p:=⟨w.heap.size,k,none⟩) (by simp;omega)).trans (by simpa using H.out k v hk)
    exact⟨w.heap.size+1,us,rfl,World.cell?_setCell_same _ _ _ kb,by simpa using kz,own_mono (by simp) (ownsRow_setCell_below ag (by simp) _),(Qab.set ae (by simp)).mono (by simp),fun k v hk=>(World.cell?_setCell_other _ _ _ _ (by intro e;simp at e)).trans (M k v hk),h.setCell (by show w.heap.size<=w.heap.size+1;omega) _⟩
  case rest=>
   obtain⟨V,us,rfl,ap,aD,N,hH,hJ,I⟩:=hcut;have aq:=I.size;have aB:=Hk (aj.out u8 us wc I N hH);have j1:wc.cell? ⟨w.heap.size,1,none⟩=some (.int .i64 6):=by have:=hJ 1 (.int .i64 j.code) rfl;rw[aC.out] at this;exact this
   have aP:=hJ.lt;have HB:=Hk I;obtain⟨xa,xc,rfl⟩:=own_slice N;clear I N hH hJ ap aj ah H t0 t1;go_wp2_with (go_at_call 146;refine aB.out.mono ?_;rintro e w5 ⟨U,J,rfl,o1,o2,au⟩)
   go_ret3
   exact⟨_,J,rfl,own_mono aq o1,o2.mono (by omega),bel_then HB.out au⟩
theorem QgA (N:Option Addr) (F H D I:Nat) (J:Value) (j:Jb) (w:World) (h:j.code=6) (M:0<D) (K:F<w.heap.size) (O:w.cell? ⟨F,H,none⟩=some J):
 Calls Tryz.prog 96 #[.agg j.cells,.slice (some ⟨F,H,none⟩) D I] w fun e w'=>e=.returned .nilIface/\Below w.heap.size w w':=by
 obtain⟨code,y⟩:∃k,j.code=k:=⟨_,rfl⟩;unfold Jb.cells;rw[y] at h⊢;clear y;subst h;have htk':(0:Int)<(D:Int):=by omega
 go_enter Tryz.func96,Tryz.ntmps96;go_wp2;go_ret;exact⟨rfl,Qaa _ _⟩
theorem QkE {cs:List Cl} {rs:List (List Vl)} (h:Qae cs rs=true):∀r∈rs,∀x∈r,rvB x=true:=by
 intro r y x I;obtain⟨N,J,H⟩:=QaI h;obtain⟨M,K,O,F⟩:=Qam h;obtain⟨i,D,rfl⟩:=List.mem_iff_getElem.1 I;exact(QiL (H r y) i D (by rw[<-F r y];exact D)).2
end Go.Proofs.YtjlgejennghhlaaGreatDoor
namespace Go.Proofs.YtjlgejennghhlaaGreatDoor.Fw
open Go.RowKit
def StrsR (w:World) (v:Value) (xs:List By):Prop:=(v=.slice none 0 0/\xs=[])\/∃b o c,v=.slice (some ⟨b,o,none⟩) xs.length c/\xs.length<=c/\b<w.heap.size/\∀(j:Nat) (h:j<xs.length),w.cell? ⟨b,o+j,none⟩=some (.string (ba xs[j]))
theorem StrsR.below {w w':World} {v:Value} {xs:List By} (h:StrsR w v xs) (D:Below w.heap.size w w'):StrsR w' v xs:=by
 rcases h with h|⟨b,o,c,F,H,y,I⟩
 ·exact Or.inl h
 ·exact Or.inr ⟨b,o,c,F,H,Nat.lt_of_lt_of_le y D.size,fun j hj=>(D.cell (p:=⟨b,o+j,none⟩) y).trans (I j hj)⟩
theorem StrsR.of {w:World} {B:Nat} {v:Value} {xs:List By} (h:QbH B xs v w):StrsR w v xs:=by
 have I:w.ownsRow B 9 1 v xs.length (Qck xs):=h;obtain⟨-,⟨J,F⟩|⟨g,H,K,D,M,-,y,N,-,-⟩⟩:=(show w.ownsRow B 9 1 v xs.length (Qck xs) from h)
 ·exact Or.inl ⟨by rw[J],List.eq_nil_of_length_eq_zero F⟩
 ·subst D;refine Or.inr ⟨g,0,H,rfl,y,(I.lt g rfl).2,fun j hj=>?_⟩;rw[Nat.zero_add,I.cellAt j (by omega)];simp[Qck,hj]
def AgOK (a:Ag):Prop:=a.1.length<=1000/\a.2.2.2.length<=1000/\-9223372036854775808<=a.2.2.1/\a.2.2.1<=9223372036854775807
def ColsR (w:World) (v:Value) (xs:List (By×Int)):Prop:=(v=.slice none 0 0/\xs=[])\/∃b o c,v=.slice (some ⟨b,o,none⟩) xs.length c/\xs.length<=c/\b<w.heap.size/\∀(j:Nat) (h:j<xs.length),w.cell? ⟨b,o+j*2,none⟩=some (.string (ba xs[j].1))/\w.cell? ⟨b,o+j*2+1,none⟩=some (.int .i64 xs[j].2)
theorem ColsR.below {w w':World} {v:Value} {xs:List (By×Int)} (h:ColsR w v xs) (D:Below w.heap.size w w'):ColsR w' v xs:=by
 rcases h with h|⟨b,o,c,H,I,y,F⟩
 ·exact Or.inl h
 ·exact Or.inr ⟨b,o,c,H,I,Nat.lt_of_lt_of_le y D.size,fun j hj=>⟨(D.cell (p:=⟨b,o+j*2,none⟩) y).trans (F j hj).1,(D.cell (p:=⟨b,o+j*2+1,none⟩) y).trans (F j hj).2⟩⟩
theorem QmL:∀(l:List (By×Int)) (j:Nat) (h:j<l.length),(Qlj l)[j*2]? =some (.string (ba l[j].1))/\(Qlj l)[j*2+1]? =some (.int .i64 l[j].2)
 |[],j,h=>absurd h (by simp)
 |a::r,0,h=>⟨rfl,rfl⟩
 |a::r,j+1,h=>by
  have y:=QmL r j (by simpa using h);have e:Qlj (a::r)=.string (ba a.1)::.int .i64 a.2::Qlj r:=rfl;rw[e,show(j+1)*2=j*2+1+1 by omega,show j*2+1+1+1=(j*2+1)+1+1 by omega];simpa using y
theorem ColsR.of {w:World} {B:Nat} {v:Value} {xs:List (By×Int)} (h:Qet B xs v w):ColsR w v xs:=by
 have y:w.ownsRow B 64 2 v xs.length (Qlj xs):=h;obtain⟨-,⟨K,H⟩|⟨g,I,M,F,N,-,D,O,-,-⟩⟩:=(show w.ownsRow B 64 2 v xs.length (Qlj xs) from h)
 ·exact Or.inl ⟨by rw[K],List.eq_nil_of_length_eq_zero H⟩
 ·subst F;refine Or.inr ⟨g,0,I,rfl,D,(y.lt g rfl).2,fun j hj=>?_⟩;have J:=QmL xs j hj;exact⟨by rw[Nat.zero_add,y.cellAt _ (by omega),J.1],by rw[Nat.zero_add,y.cellAt _ (by omega),J.2]⟩
def QpG (c:By×Int):Prop:=c.1.length<=900/\(c.2=1\/c.2=2)
def JobFm (j:FJob):Prop:=(j.code=2->∃n,j.cols=[n]/\j.op∈ariL)/\(j.code=7->∃a b,j.cols=[a,b])/\(j.code=8->∃a b,j.cols=[a,b]/\(j.op=wSum\/j.op=Qp9))/\((j.code=5\/j.code=7)->∃a b,j.ins=[a,b])/\(j.code≠5->j.code≠7->∃a,j.ins=[a])
structure JobOK (j:FJob):Prop where
 code:j.code=1\/j.code=2\/j.code=3\/j.code=4\/j.code=5\/j.code=6\/j.code=7\/j.code=8\/j.code=9
 il:j.ins.length<=1000
 cl:j.cols.length<=1000
 ol:j.outs.length<=1000
 is:∀x∈j.ins,x.length<=1000
 cs:∀x∈j.cols,x.length<=1000
 os:∀x∈j.outs,x.length<=1000
 l:AgOK j.left
 r:AgOK j.right
 op:j.op.length<=1000
 rt:0<=j.retry/\j.retry<=1000
 fm:JobFm j
def NM (ts:List Tk):Prop:=(∀t∈ts,t.1=1->(t.2.1.head?.map (·.toNat))≠some 45)/\ts.length<=900
theorem NM.tail {ts:List Tk} (h:NM ts):NM ts.tail:=⟨fun t ht=>h.1 t (List.mem_of_mem_tail ht),by have:=h.2;simp;omega⟩
theorem Qay {α β ε:Type} {p:Except ε α} {f:α->Except ε β} {r:β} (h:p.bind f=.ok r):∃a,p=.ok a/\f a=.ok r:=by
 cases p with
 |error e=>cases h
 |ok a=>exact⟨a,rfl,h⟩
theorem map_ok {α β ε:Type} {p:Except ε α} {f:α->β} {r:β} (h:p.map f=.ok r):∃a,p=.ok a/\f a=r:=by
 cases p with
 |error e=>cases h
 |ok a=>exact⟨a,rfl,by injection h⟩
theorem Qbx {ts:List Tk} {a:By×List Tk} (h:Qbd ts=.ok a) (y:NM ts):a.1.length<=10/\NM a.2:=by
 unfold Qbd at h;split at h
 ·cases h
 ·split at h
  ·cases h
  ·injection h with h;subst h;exact⟨by dsimp only;omega,y.tail⟩
theorem Qbf {x:By} {ts:List Tk} {a:Nat×List Tk} (h:QbA x ts=.ok a) (y:NM ts):NM a.2:=by
 unfold QbA at h;split at h
 ·injection h with h;subst h;exact y.tail
 ·cases h
theorem Qg4 {xs:List By} {ts:List Tk} {a:By×List Tk} (h:QcZ xs ts=.ok a) (D:NM ts):a.1∈xs/\NM a.2:=by
 unfold QcZ at h;split at h
 ·rename_i y
  injection h with h;subst h;exact⟨y,D.tail⟩
 ·cases h
theorem QmM {y:Int} {ts:List Tk} {a:Int×List Tk} (h:Qhh y ts=.ok a) (D:NM ts):0<=a.1/\a.1<=y/\NM a.2:=by
 unfold Qhh at h;split at h
 ·cases h
 ·rename_i F
  split at h
  ·cases h
  ·injection h with h;subst h;refine⟨QjB ?_,by omega,D.tail⟩
   cases ts with
   |nil=>simp[Qar]
   |cons t r=>exact D.1 t (by simp) (by simpa [kindT] using F)
theorem Qqv {ts:List Tk} {a:By×List Tk} (h:QkI ts=.ok a) (y:NM ts):a.1.length<=1000/\NM a.2:=by
 unfold QkI at h;split at h
 ·cases h
 ·split at h
  ·cases h
  ·rename_i D
   injection h with h;subst h;refine⟨?_,y.tail⟩;have:=Qa2 (show Qao 2 0 (QdB (Qar ts))=true by simpa using D)
   dsimp only
   omega
theorem arg_ok {ts:List Tk} {a:Ag×List Tk} (h:Qe5 ts=.ok a) (D:NM ts):AgOK a.1/\NM a.2:=by
 unfold Qe5 at h;split at h
 ·obtain⟨x,y,rfl⟩:=map_ok h;have:=Qbx y D;exact⟨⟨by dsimp only;omega,by simp,by dsimp only;omega,by dsimp only;omega⟩,this.2⟩
 ·split at h
  ·obtain⟨x,y,rfl⟩:=map_ok h;have:=Qqv y D;exact⟨⟨by simp,this.1,by dsimp only;omega,by dsimp only;omega⟩,this.2⟩
  ·split at h
   ·obtain⟨x,y,rfl⟩:=map_ok h;have:=QmM y D.tail;exact⟨⟨by simp,by simp,by dsimp only;omega,by dsimp only;omega⟩,this.2.2⟩
   ·obtain⟨x,y,rfl⟩:=map_ok h;have:=QmM y D;exact⟨⟨by simp,by simp,by dsimp only;omega,by dsimp only;omega⟩,this.2.2⟩
theorem more_ok:∀(g:Nat) (acc:List By) (ts:List Tk) (a:List By×List Tk),Qer g acc ts=.ok a->NM ts->(∀x∈acc,x.length<=10)->(∀x∈a.1,x.length<=10)/\a.1.length<=acc.length+g/\NM a.2
 |0,acc,ts,a,h,hn,ha=>by
  unfold Qer at h;injection h with h;subst h;exact⟨ha,by dsimp only;omega,hn⟩
 |g+1,acc,ts,a,h,hn,ha=>by
  unfold Qer at h;split at h
  ·obtain⟨x,I,h⟩:=Qay h;have H:=Qbx I hn.tail;have F:=more_ok g _ _ a h H.2 (by
    intro y D;rcases List.mem_append.1 D with D|D
    ·exact ha y D
    ·rw[List.mem_singleton.1 D];exact H.1)
   refine⟨F.1,?_,F.2.2⟩;have:=F.2.1;simp at this;omega
  ·injection h with h;subst h;exact⟨ha,by dsimp only;omega,hn⟩
theorem QjN {ts:List Tk} {a:List By×List Tk} (h:Qcp ts=.ok a) (J:NM ts):(∀x∈a.1,x.length<=10)/\a.1.length<=1000/\NM a.2:=by
 obtain⟨x,I,h⟩:=Qay h;have F:=Qbx I J;have D:=more_ok _ _ _ a h F.2 (by intro y H;rw[List.mem_singleton.1 H];exact F.1);refine⟨D.1,?_,D.2.2⟩;have:=D.2.1;have:=F.2.2;simp at*;omega
theorem Qh7 {ts:List Tk} {a:(By×Int)×List Tk} (h:Qbe ts=.ok a) (F:NM ts):(a.1.1.length<=10/\(a.1.2=1\/a.1.2=2))/\NM a.2:=by
 obtain⟨x,D,h⟩:=Qay h;have y:=Qbx D F;split at h
 ·injection h with h;subst h;exact⟨⟨y.1,Or.inl rfl⟩,y.2.tail⟩
 ·split at h
  ·injection h with h;subst h;exact⟨⟨y.1,Or.inr rfl⟩,y.2.tail⟩
  ·cases h
theorem Qoq {ts:List Tk} {a:Int×List Tk} (h:QfP ts=.ok a) (y:NM ts):0<=a.1/\a.1<=5/\NM a.2:=by
 unfold QfP at h;split at h
 ·exact QmM h y.tail
 ·injection h with h;subst h;exact⟨by dsimp only;omega,by dsimp only;omega,y⟩
def Qri (a:FIn):Prop:=a.name.length<=10/\a.cols.length<=1000/\∀x∈a.cols,QpG x
def QpH (a:FOut):Prop:=a.name.length<=10/\a.from_.length<=10
theorem cols_ok:∀(g:Nat) (acc:List (By×Int)) (ts:List Tk) (a:List (By×Int)×List Tk),QfO g acc ts=.ok a->NM ts->(∀x∈acc,QpG x)->(∀x∈a.1,QpG x)/\a.1.length<=acc.length+g/\NM a.2
 |0,acc,ts,a,h,hn,ha=>by
  unfold QfO at h;injection h with h;subst h;exact⟨ha,by dsimp only;omega,hn⟩
 |g+1,acc,ts,a,h,hn,ha=>by
  unfold QfO at h;split at h
  ·obtain⟨x,I,h⟩:=Qay h;have F:=Qh7 I hn.tail;have H:=cols_ok g _ _ a h F.2 (by
    intro y D;rcases List.mem_append.1 D with D|D
    ·exact ha y D
    ·rw[List.mem_singleton.1 D];exact⟨by have:=F.1.1;omega,F.1.2⟩)
   refine⟨H.1,?_,H.2.2⟩;have:=H.2.1;simp at this;omega
  ·injection h with h;subst h;exact⟨ha,by dsimp only;omega,hn⟩
theorem Qor {ts:List Tk} {a:FIn×List Tk} (h:Qc0 ts=.ok a) (Z:NM ts):Qri a.1/\NM a.2:=by
 obtain⟨x1,O,h⟩:=Qay h;have k1:=Qbf O Z;obtain⟨x2,J,h⟩:=Qay h;have k2:=Qbx J k1;obtain⟨x3,V,h⟩:=Qay h;have I:=Qbf V k2.2;obtain⟨x4,M,h⟩:=Qay h;have D:=Qh7 M I;obtain⟨x5,U,h⟩:=Qay h;have F:=cols_ok _ _ _ x5 U D.2 (by intro y K;rw[List.mem_singleton.1 K];exact⟨by have:=D.1.1;omega,D.1.2⟩);obtain⟨x6,H,h⟩:=Qay h;have N:=Qbf H F.2.2;injection h with h;subst h;refine⟨⟨k2.1,?_,F.1⟩,N⟩;have:=F.2.1;have:=D.2.2;simp at*;omega
theorem QpI {ts:List Tk} {a:Int×List Tk} (h:Qch ts=.ok a) (y:NM ts):(a.1=1\/a.1=2\/a.1=3\/a.1=4\/a.1=5\/a.1=6\/a.1=7\/a.1=8\/a.1=9)/\NM a.2:=by
 refine⟨QgD (ts':=a.2) (by rw[h]),?_⟩;unfold Qch at h;split at h
 ·injection h with h;subst h;exact y.tail
 ·cases h
theorem QmN {xs:List By} {x:By} (D:∀y∈xs,y.length<=1000) (h:x∈xs):x.length<=1000:=D x h
theorem Qct:AgOK Qli:=by unfold AgOK Qli;decide
theorem Qew {a:By} (h:a.length<=10):∀x∈[a],x.length<=1000:=by intro x y;rw[List.mem_singleton.1 y];omega
theorem Qg5 {a b:By} (h:a.length<=10) (D:b.length<=10):∀x∈[a,b],x.length<=1000:=by intro x y;simp at y;rcases y with rfl|rfl<;>omega
theorem QiX:∀x∈([]:List By),x.length<=1000:=by simp
theorem QpJ {a:By} (h:a.length<=10):AgOK (a,0,0,[]):=⟨by dsimp only;omega,by simp,by dsimp only;omega,by dsimp only;omega⟩
theorem QpK {at_:Nat} {outs:List By} {retry:Int} {ts:List Tk} {a:FJob×List Tk} (h:Qb8 at_ outs retry ts=.ok a) (hn:NM ts) (N:∀x∈outs,x.length<=1000) (D:outs.length<=1000) (O:0<=retry/\retry<=1000):JobOK a.1/\NM a.2:=by
 obtain⟨c,h1,h⟩:=Qay h;have k1:=QpI h1 hn;obtain⟨i,h2,h⟩:=Qay h;have k2:=Qbx h2 k1.2;split at h
 ·obtain⟨x3,J,h⟩:=Qay h;have F:=Qbf J k2.2;obtain⟨V,H,h⟩:=Qay h;have y:=Qbx H F;obtain⟨x5,M,h⟩:=Qay h;have K:=Qg4 M y.2;obtain⟨x6,U,h⟩:=Qay h;have I:=arg_ok U K.2;injection h with h;subst h;exact⟨⟨k1.1,by simp,by simp,D,Qew k2.1,QiX,N,QpJ y.1,I.1,QmN (by decide) K.1,O,by refine⟨fun q=>?_,fun q=>?_,fun q=>?_,fun q=>?_,fun q q2=>?_⟩<;>first|(exfalso;dsimp only at*;omega)|exact⟨_,rfl⟩|exact⟨_,_,rfl⟩|exact⟨_,rfl,by assumption⟩|exact⟨_,_,rfl,by assumption⟩⟩,I.2⟩
 ·split at h
  ·obtain⟨x3,J,h⟩:=Qay h;have F:=Qbf J k2.2;obtain⟨V,H,h⟩:=Qay h;have y:=Qbx H F;obtain⟨x5,M,h⟩:=Qay h;have K:=Qbf M y.2;obtain⟨x6,U,h⟩:=Qay h;have I:=arg_ok U K;obtain⟨x7,h7,h⟩:=Qay h;have k7:=Qg4 h7 I.2;have am:=k7.1;obtain⟨x8,h8,h⟩:=Qay h;have Z:=arg_ok h8 k7.2;injection h with h;subst h;exact⟨⟨k1.1,by simp,by simp,D,Qew k2.1,Qew y.1,N,I.1,Z.1,QmN (by decide) k7.1,O,by refine⟨fun q=>?_,fun q=>?_,fun q=>?_,fun q=>?_,fun q q2=>?_⟩<;>first|(exfalso;dsimp only at*;omega)|exact⟨_,rfl⟩|exact⟨_,_,rfl⟩|exact⟨_,rfl,by assumption⟩|exact⟨_,_,rfl,by assumption⟩⟩,Z.2⟩
  ·split at h
   ·obtain⟨x3,J,h⟩:=Qay h;have F:=Qbf J k2.2;obtain⟨V,H,h⟩:=Qay h;have y:=QjN H F;injection h with h;subst h;exact⟨⟨k1.1,by simp,y.2.1,D,Qew k2.1,fun x hx=>by have:=y.1 x hx;omega,N,Qct,Qct,by simp,O,by refine⟨fun q=>?_,fun q=>?_,fun q=>?_,fun q=>?_,fun q q2=>?_⟩<;>first|(exfalso;dsimp only at*;omega)|exact⟨_,rfl⟩|exact⟨_,_,rfl⟩|exact⟨_,rfl,by assumption⟩|exact⟨_,_,rfl,by assumption⟩⟩,y.2.2⟩
   ·split at h
    ·obtain⟨x3,J,h⟩:=Qay h;have F:=Qbf J k2.2;obtain⟨V,H,h⟩:=Qay h;have y:=Qbx H F;injection h with h;subst h;exact⟨⟨k1.1,by simp,by simp,D,Qg5 k2.1 y.1,QiX,N,Qct,Qct,by simp,O,by refine⟨fun q=>?_,fun q=>?_,fun q=>?_,fun q=>?_,fun q q2=>?_⟩<;>first|(exfalso;dsimp only at*;omega)|exact⟨_,rfl⟩|exact⟨_,_,rfl⟩|exact⟨_,rfl,by assumption⟩|exact⟨_,_,rfl,by assumption⟩⟩,y.2⟩
    ·split at h
     ·obtain⟨x3,J,h⟩:=Qay h;have F:=Qbf J k2.2;obtain⟨V,H,h⟩:=Qay h;have y:=Qbx H F;obtain⟨x5,M,h⟩:=Qay h;have K:=Qbf M y.2;obtain⟨x6,U,h⟩:=Qay h;have I:=Qbx U K;obtain⟨x7,h7,h⟩:=Qay h;have k7:=Qbf h7 I.2;obtain⟨x8,h8,h⟩:=Qay h;have Z:=Qbx h8 k7;injection h with h;subst h;exact⟨⟨k1.1,by simp,by simp,D,Qg5 k2.1 I.1,Qg5 y.1 Z.1,N,Qct,Qct,by simp,O,by refine⟨fun q=>?_,fun q=>?_,fun q=>?_,fun q=>?_,fun q q2=>?_⟩<;>first|(exfalso;dsimp only at*;omega)|exact⟨_,rfl⟩|exact⟨_,_,rfl⟩|exact⟨_,rfl,by assumption⟩|exact⟨_,_,rfl,by assumption⟩⟩,Z.2⟩
     ·split at h
      ·obtain⟨x3,J,h⟩:=Qay h;have F:=Qbf J k2.2;obtain⟨V,H,h⟩:=Qay h;have y:=Qbx H F;obtain⟨x5,M,h⟩:=Qay h;have K:=Qg4 M y.2;have al:x5.1=wSum\/x5.1=Qp9:=by simpa using K.1
       obtain⟨x6,U,h⟩:=Qay h;have I:=Qbx U K.2;injection h with h;subst h;exact⟨⟨k1.1,by simp,by simp,D,Qew k2.1,Qg5 y.1 I.1,N,Qct,Qct,QmN (by decide) K.1,O,by refine⟨fun q=>?_,fun q=>?_,fun q=>?_,fun q=>?_,fun q q2=>?_⟩<;>first|(exfalso;dsimp only at*;omega)|exact⟨_,rfl⟩|exact⟨_,_,rfl⟩|exact⟨_,rfl,by assumption⟩|exact⟨_,_,rfl,by assumption⟩⟩,I.2⟩
      ·injection h with h;subst h;exact⟨⟨k1.1,by simp,by simp,D,Qew k2.1,QiX,N,Qct,Qct,by simp,O,by refine⟨fun q=>?_,fun q=>?_,fun q=>?_,fun q=>?_,fun q q2=>?_⟩<;>first|(exfalso;dsimp only at*;omega)|exact⟨_,rfl⟩|exact⟨_,_,rfl⟩|exact⟨_,rfl,by assumption⟩|exact⟨_,_,rfl,by assumption⟩⟩,k2.2⟩
theorem Qqw {ts:List Tk} {a:FJob×List Tk} (h:Qmm ts=.ok a) (U:NM ts):JobOK a.1/\NM a.2:=by
 obtain⟨x1,M,h⟩:=Qay h;have k1:=Qbf M U;obtain⟨x2,H,h⟩:=Qay h;have k2:=QjN H k1;obtain⟨x3,O,h⟩:=Qay h;have y:=Qoq O k2.2.2;obtain⟨V,I,h⟩:=Qay h;have J:=Qbf I y.2.2;obtain⟨x5,N,h⟩:=Qay h;have D:=QpK N J (fun x hx=>by have:=k2.1 x hx;omega) k2.2.1 ⟨y.1,by have:=y.2.1;omega⟩;obtain⟨Z,F,h⟩:=Qay h;have K:=Qbf F D.2;injection h with h;subst h;exact⟨D.1,K⟩
theorem QkR {ts:List Tk} {a:FOut×List Tk} (h:Qbs ts=.ok a) (N:NM ts):QpH a.1/\NM a.2:=by
 obtain⟨U,I,h⟩:=Qay h;have k1:=Qbf I N;obtain⟨Z,F,h⟩:=Qay h;have k2:=Qbx F k1;obtain⟨V,K,h⟩:=Qay h;have D:=Qbf K k2.2;obtain⟨O,H,h⟩:=Qay h;have y:=Qbx H D;obtain⟨x5,J,h⟩:=Qay h;have M:=Qbf J y.2;injection h with h;subst h;exact⟨⟨k2.1,y.1⟩,M⟩
theorem Qe7 {α:Type} {x:By} {p:List Tk->PE α} {Q:α->Prop} (F:∀ts a,p ts=.ok a->NM ts->Q a.1/\NM a.2):∀(g:Nat) (acc:List α) (ts:List Tk) (a:List α×List Tk),partsP x p g acc ts=.ok a->NM ts->(∀y∈acc,Q y)->acc.length<=16->(∀y∈a.1,Q y)/\a.1.length<=16/\NM a.2
 |0,acc,ts,a,h,hn,ha,hl=>by
  unfold partsP at h;injection h with h;subst h;exact⟨ha,hl,hn⟩
 |g+1,acc,ts,a,h,hn,ha,hl=>by
  unfold partsP at h;split at h
  ·split at h
   ·cases h
   ·rename_i J
    obtain⟨y,I,h⟩:=Qay h;have H:=F _ _ I hn;exact Qe7 F g _ _ a h H.2 (by
     intro z D;rcases List.mem_append.1 D with D|D
     ·exact ha z D
     ·rw[List.mem_singleton.1 D];exact H.1) (by simp;omega)
  ·injection h with h;subst h;exact⟨ha,hl,hn⟩
structure FlwOK (f:Flw):Prop where
 ins:∀a∈f.ins,Qri a
 jobs:∀a∈f.jobs,JobOK a
 outs:∀a∈f.outs,QpH a
 il:f.ins.length<=16
 jl:f.jobs.length<=16
 ol:f.outs.length<=16
theorem QpL {ts:List Tk} {f:Flw} (h:Qc5 ts=.ok f) (y:NM ts):FlwOK f:=by
 obtain⟨I,H,h⟩:=Qay h;have k1:=Qe7 (Q:=Qri) (fun ts a h y=>Qor h y) _ _ _ I H y (by simp) (by simp);obtain⟨M,F,h⟩:=Qay h;have k2:=Qe7 (Q:=JobOK) (fun ts a h y=>Qqw h y) _ _ _ M F k1.2.2 (by simp) (by simp);obtain⟨K,J,h⟩:=Qay h;have D:=Qe7 (Q:=QpH) (fun ts a h y=>QkR h y) _ _ _ K J k2.2.2 (by simp) (by simp);unfold QeW at h;split at h
 ·cases h
 ·split at h
  ·cases h
  ·split at h
   ·cases h
   ·injection h with h;subst h;exact⟨k1.1,k2.1,D.1,k1.2.1,k2.2.1,D.2.1⟩
theorem parse_ok {l:By} {f:Flw} (F:l.length<=1000000) (h:parseF l=.ok f):FlwOK f:=by
 obtain⟨ts,y,h⟩:=Qay h;have D:=QfU F y;refine QpL h ⟨fun t ht=>(D.small t ht).2.2.2.2,?_⟩;unfold QbZ at y
 cases hk:QfN (l.length+1) l 0 0 with
 |error e=>rw[hk] at y;cases y
 |ok us=>
  rw[hk] at y;simp only[Except.ok.injEq] at y;subst y;obtain⟨H,-⟩:=QfT _ l 0 0 us l.length hk (by omega) (by omega);simp;omega
def RowR (w:World) (v:Value) (n z:Nat) (P:Nat->World->Nat->Nat->Prop):Prop:=(v=.slice none 0 0/\n=0)\/∃b c,v=.slice (some ⟨b,0,none⟩) n c/\n<=c/\b<w.heap.size/\∀j,j<n->P j w b (j*z)
def InAt (l:List FIn) (j:Nat) (w:World) (b o:Nat):Prop:=∃(a:FIn) (v:Value),l[j]? =some a/\w.cell? ⟨b,o,none⟩=some (.int .i64 (a.at_:Nat))/\w.cell? ⟨b,o+1,none⟩=some (.string (ba a.name))/\w.cell? ⟨b,o+2,none⟩=some v/\ColsR w v a.cols
def OutAt (l:List FOut) (j:Nat) (w:World) (b o:Nat):Prop:=∃(a:FOut),l[j]? =some a/\w.cell? ⟨b,o,none⟩=some (.int .i64 (a.at_:Nat))/\w.cell? ⟨b,o+1,none⟩=some (.string (ba a.name))/\w.cell? ⟨b,o+2,none⟩=some (.string (ba a.from_))
def JobCellsAt (l:List FJob) (j:Nat) (w:World) (b o:Nat):Prop:=∃(a:FJob) (vo vi vc:Value),l[j]? =some a/\(∀i u,(jobV a vo vi vc)[i]? =some u->w.cell? ⟨b,o+i,none⟩=some u)/\StrsR w vo a.outs/\StrsR w vi a.ins/\StrsR w vc a.cols
theorem InAt.below {l:List FIn} {j b o:Nat} {w w':World} (h:InAt l j w b o) (y:Below w.heap.size w w') (D:b<w.heap.size):InAt l j w' b o:=by
 obtain⟨a,v,I,F,K,H,J⟩:=h;exact⟨a,v,I,cK y D F,cK y D K,cK y D H,J.below y⟩
theorem OutAt.below {l:List FOut} {j b o:Nat} {w w':World} (h:OutAt l j w b o) (D:Below w.heap.size w w') (y:b<w.heap.size):OutAt l j w' b o:=by
 obtain⟨a,I,F,J,H⟩:=h;exact⟨a,I,cK D y F,cK D y J,cK D y H⟩
theorem JobCellsAt.below {l:List FJob} {j b o:Nat} {w w':World} (h:JobCellsAt l j w b o) (y:Below w.heap.size w w') (F:b<w.heap.size):JobCellsAt l j w' b o:=by
 obtain⟨a,M,K,D,J,H,O,I,N⟩:=h;exact⟨a,M,K,D,J,fun i u hu=>(y.cell (p:=⟨b,o+i,none⟩) F).trans (H i u hu),O.below y,I.below y,N.below y⟩
theorem RowR.below {w w':World} {v:Value} {n z:Nat} {P:Nat->World->Nat->Nat->Prop} (h:RowR w v n z P) (H:Below w.heap.size w w') (F:∀j b o,P j w b o->b<w.heap.size->P j w' b o):RowR w' v n z P:=by
 rcases h with h|⟨b,c,D,I,y,J⟩
 ·exact Or.inl h
 ·exact Or.inr ⟨b,c,D,I,Nat.lt_of_lt_of_le y H.size,fun j hj=>F _ _ _ (J j hj) y⟩
theorem RowR.of {w:World} {B:Nat} {e:TypeId} {z n:Nat} {v:Value} {xs:List Value} {P:Nat->World->Nat->Nat->Prop} (h:w.ownsRow B e z v n xs) (K:∀b,(∀i u,i<n*z->xs[i]? =some u->w.cell? ⟨b,i,none⟩=some u)->∀j,j<n->P j w b (j*z)):RowR w v n z P:=by
 have I:=h;obtain⟨-,⟨J,F⟩|⟨g,H,M,D,N,-,y,O,-,-⟩⟩:=h
 ·exact Or.inl ⟨by rw[J],F⟩
 ·subst D;refine Or.inr ⟨g,H,rfl,y,(I.lt g rfl).2,K g fun i u hi hu=>?_⟩;rw[I.cellAt i hi,hu]
theorem QmO:∀{w:World} {B:Nat} {l:List FIn} {y:List Value},HI w B l y->∀j,j<l.length->∃a v,l[j]? =some a/\Qet B a.cols v w/\(QkK l y)[j*3]? =some (.int .i64 (a.at_:Nat))/\(QkK l y)[j*3+1]? =some (.string (ba a.name))/\(QkK l y)[j*3+2]? =some v
 |w,B,[],[],_,j,hj=>absurd hj (by simp)
 |w,B,a::l,v::y,h,0,hj=>⟨a,v,rfl,h.1,rfl,rfl,rfl⟩
 |w,B,a::l,v::y,h,j+1,hj=>by
  obtain⟨b,u,H,D,J,F,I⟩:=QmO h.2 j (by simpa using hj);refine⟨b,u,by simpa using H,D,?_⟩;have e:QkK (a::l) (v::y)=.int .i64 (a.at_:Nat)::.string (ba a.name)::v::QkK l y:=rfl;rw[e,show(j+1)*3=j*3+1+1+1 by omega,show j*3+1+1+1+1=(j*3+1)+1+1+1 by omega,show j*3+1+1+1+2=(j*3+2)+1+1+1 by omega];simpa using ⟨J,F,I⟩
theorem QgY.row {w:World} {B:Nat} {l:List FIn} {v:Value} (h:QgY w B l v):RowR w v l.length 3 (InAt l):=by
 obtain⟨J,F,D⟩:=h;refine RowR.of F fun b hb j hj=>?_
 obtain⟨a,u,k1,k2,y,I,H⟩:=QmO D j hj;exact⟨a,u,k1,hb _ _ (by omega) y,hb _ _ (by omega) I,hb _ _ (by omega) H,ColsR.of k2⟩
theorem QjO:∀(l:List FOut) (j:Nat),j<l.length->∃a,l[j]? =some a/\(QeX l)[j*3]? =some (.int .i64 (a.at_:Nat))/\(QeX l)[j*3+1]? =some (.string (ba a.name))/\(QeX l)[j*3+2]? =some (.string (ba a.from_))
 |[],j,hj=>absurd hj (by simp)
 |a::l,0,hj=>⟨a,rfl,rfl,rfl,rfl⟩
 |a::l,j+1,hj=>by
  obtain⟨b,h,F,D,y⟩:=QjO l j (by simpa using hj);refine⟨b,by simpa using h,?_⟩;have e:QeX (a::l)=.int .i64 (a.at_:Nat)::.string (ba a.name)::.string (ba a.from_)::QeX l:=rfl;rw[e,show(j+1)*3=j*3+1+1+1 by omega,show j*3+1+1+1+1=(j*3+1)+1+1+1 by omega,show j*3+1+1+1+2=(j*3+2)+1+1+1 by omega];simpa using ⟨F,D,y⟩
theorem Qos {w:World} {B:Nat} {l:List FOut} {v:Value} (h:w.ownsRow B 60 3 v l.length (QeX l)):RowR w v l.length 3 (OutAt l):=by
 refine RowR.of h fun b hb j hj=>?_
 obtain⟨a,k1,y,F,D⟩:=QjO l j hj;exact⟨a,k1,hb _ _ (by omega) y,hb _ _ (by omega) F,hb _ _ (by omega) D⟩
theorem QjP:∀{w:World} {B:Nat} {l:List FJob} {y:List (Value×Value×Value)},HJ w B l y->∀j,j<l.length->∃(a:FJob) (v:Value×Value×Value),l[j]? =some a/\(QbH B a.outs v.1 w/\QbH B a.ins v.2.1 w/\QbH B a.cols v.2.2 w)/\∀i u,(jobV a v.1 v.2.1 v.2.2)[i]? =some u->(QdL l y)[j*15+i]? =some u
 |w,B,[],[],_,j,hj=>absurd hj (by simp)
 |w,B,a::l,v::y,h,0,hj=>⟨a,v,rfl,h.1,fun i u hu=>by
  have I:i<15:=(List.getElem?_eq_some_iff.1 hu).1;rw[show QdL (a::l) (v::y)=jobV a v.1 v.2.1 v.2.2++QdL l y from rfl,show 0*15+i=i by omega,List.getElem?_append_left (by exact I)];exact hu⟩
 |w,B,a::l,v::y,h,j+1,hj=>by
  obtain⟨b,u,F,D,H⟩:=QjP h.2 j (by simpa using hj);refine⟨b,u,by simpa using F,D,fun i x hx=>?_⟩;rw[show QdL (a::l) (v::y)=jobV a v.1 v.2.1 v.2.2++QdL l y from rfl,List.getElem?_append_right (by show 15<=_;omega)];rw[show(j+1)*15+i-(jobV a v.1 v.2.1 v.2.2).length=j*15+i by show _-15=_;omega];exact H i x hx
theorem QgE.row {w:World} {B:Nat} {l:List FJob} {v:Value} (h:QgE w B l v):RowR w v l.length 15 (JobCellsAt l):=by
 obtain⟨H,F,D⟩:=h;refine RowR.of F fun b hb j hj=>?_
 obtain⟨a,u,k1,k2,y⟩:=QjP D j hj;refine⟨a,u.1,u.2.1,u.2.2,k1,fun i x hx=>?_,StrsR.of k2.1,StrsR.of k2.2.1,StrsR.of k2.2.2⟩;have I:i<15:=(List.getElem?_eq_some_iff.1 hx).1;exact hb _ _ (by omega) (y i x hx)
structure FlowRd (w:World) (f:Flw) (vi vj vo:Value):Prop where
 ins:RowR w vi f.ins.length 3 (InAt f.ins)
 jobs:RowR w vj f.jobs.length 15 (JobCellsAt f.jobs)
 outs:RowR w vo f.outs.length 3 (OutAt f.outs)
theorem FlowRd.below {w w':World} {f:Flw} {F D H:Value} (h:FlowRd w f F D H) (y:Below w.heap.size w w'):FlowRd w' f F D H:=
 ⟨h.ins.below y fun _ _ _ hh hl=>hh.below y hl,h.jobs.below y fun _ _ _ hh hl=>hh.below y hl,h.outs.below y fun _ _ _ hh hl=>hh.below y hl⟩
theorem FlowRd.of {w:World} {B:Nat} {f:Flw} {D y F:Value} (h:FlowO w B f.ins D f.jobs y f.outs F):FlowRd w f D y F:=⟨h.ins.row,h.jobs.row,Qos h.row⟩
end Go.Proofs.YtjlgejennghhlaaGreatDoor.Fw
namespace Go.Proofs
open Go.Shelf
open Go.RowKit
open Go.Sort
def Tryz.laysNm223_ren:Go.Shelf.Ren:=⟨fun|23=>57|n=>n,fun|22=>73|3=>3|4=>4|0=>0|n=>n,fun|n=>n⟩
theorem Tryz.laysNm223:Go.Proofs.Lays2.n23 Tryz.prog Tryz.laysNm223_ren:={
 mixed:=by kernel_rfl
 f23:=Tryz.func57.trans (congrArg some (by kernel_rfl))
 t0:=Tryz.underlying0
 a0:=Tryz.isAgg0
 z0:=Tryz.sizeOf0
 v0:=Tryz.zeroValue0
 t3:=Tryz.underlying3
 a3:=Tryz.isAgg3
 z3:=Tryz.sizeOf3
 v3:=Tryz.zeroValue3
 t4:=Tryz.underlying4
 a4:=Tryz.isAgg4
 z4:=Tryz.sizeOf4
 v4:=Tryz.zeroValue4
 t22:=Tryz.underlying73
 a22:=Tryz.isAgg73
 z22:=Tryz.sizeOf73
 v22:=Tryz.zeroValue73
 i3:=by kernel_rfl}
theorem Tryz.slices_Delete_int (blk h y i j:Nat) (D:List Int) (w:World) (K:Holds (Value.int .i64) w blk h D.toArray) (F:D.length<=y) (I:y<=9223372036854775807) (H:i<=j) (J:j<=D.length):
 Calls Tryz.prog 57 #[.slice (some ⟨blk,h,none⟩) D.length y,.int .i64 i,.int .i64 j] w fun e w'=>e=.returned (.slice (some ⟨blk,h,none⟩) (D.length-(j-i)) y)/\∃q,w'=putRow (Value.int .i64) (Sort.ahead w q) blk h (D.take i++D.drop j++List.replicate (j-i) 0).toArray:=Any.slices_Delete_int Tryz.laysNm223 blk h y i j D w K F I H J
end Go.Proofs
namespace Go.Proofs.YtjlgejennghhlaaGreatDoor.Fw
open Go.RowKit
theorem builder_new (w:World):Lib.IsBuilder 285 5 w.heap.size w.heap.size [] (w.alloc (.cells #[.pointer none,.slice none 0 0] 285)):=
 Or.inl ⟨Nat.le_refl _,.slice none 0 0,heap_alloc_new _ _,World.ownsRow_nil _ _ _ _,by simp[Value.ownBlock]⟩
def PrS (w1 wr:World) (l:By):Prop:=Lib.IsBuilderF 285 5 w1.heap.size w1.heap.size (Lib.byteCells l) wr/\Below w1.heap.size w1 wr
theorem PrS.new (h:World):PrS h (h.alloc (.cells #[.pointer none,.slice none 0 0] 285)) []:=⟨Lib.IsBuilderF.of (builder_new h),Qaa _ _⟩
theorem blk_cell {K i:Nat} {cs:Array Value} {T:TypeId} {w:World} {v:Value} (y:w.heap[K]? =some (.cells cs T (0,0))) (h:cs[i]? =some v):w.cell? ⟨K,i,none⟩=some v:=by
 simp[World.cell?,y,h]
theorem job_info:(Tryz.prog.info? 50).map (·.size)=some 15:=by kernel_rfl
abbrev zeroJ:Array Value:=#[.int .i64 0,.int .i64 0,.slice none 0 0,.slice none 0 0,.slice none 0 0,.string ⟨#[]⟩,.string ⟨#[]⟩,.int .i64 0,.int .i64 0,.string ⟨#[]⟩,.string ⟨#[]⟩,.int .i64 0,.int .i64 0,.string ⟨#[]⟩,.int .i64 0]
theorem job_there (wr:World):(wr.alloc (.cells zeroJ 50)).there wr.heap.size 0 15:=(Box.new wr zeroJ.toList 50 _ rfl).there
theorem below_setCells {B k:Nat} (h:B<=k):∀(us:List Value) (o:Nat) (w:World),Below B w (w.setCells k o us)
 |[],o,w=>Below.refl _ _
 |u::us,o,w=>((Below.refl B w).setCell (p:=⟨k,o,none⟩) h u).trans (below_setCells h us (o+1) _)
theorem size_sets (k:Nat):∀(us:List Value) (o:Nat) (w:World),(w.setCells k o us).heap.size=w.heap.size
 |[],o,w=>rfl
 |u::us,o,w=>by rw[World.setCells,size_sets k us (o+1) _,Qac]
theorem QgF {k:Nat} {T:TypeId}:∀(us:List Value) (o:Nat) (w:World),(∃vs,w.heap[k]? =some (.cells vs T (0,0)))->∃vs,(w.setCells k o us).heap[k]? =some (.cells vs T (0,0))
 |[],o,w,h=>h
 |u::us,o,w,⟨vs,h⟩=>QgF us (o+1) _ ⟨vs.setIfInBounds o u,by simp[World.setCell,Array.getElem?_modify,h]⟩
theorem job_stored (wr:World) (y:List Value) (h:y.length=15):((wr.alloc (.cells zeroJ 50)).setCells wr.heap.size 0 y).heap[wr.heap.size]? =some (.cells y.toArray 50 (0,0)):=by
 obtain⟨H,D⟩:=QgF (k:=wr.heap.size) (T:=50) y 0 (wr.alloc (.cells zeroJ 50)) ⟨zeroJ,heap_alloc_new _ _⟩;obtain⟨T,F⟩:=(Box.new wr zeroJ.toList 50 _ rfl).full (us:=y) (by rw[h];rfl);have e:=D.symm.trans F;simp only[Option.some.injEq,Obj.cells.injEq] at e;rw[D,e.1]
end Go.Proofs.YtjlgejennghhlaaGreatDoor.Fw
