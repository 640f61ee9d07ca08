import Derived.WalkLawsBesides
import Derived.Deep.LoopGhost
import Derived.Test.YtjlgejennghhlaaGreatDoorR01
import Derived.Test.YtjlgejennghhlaaGreatDoorR18
import Derived.Test.YtjlgejennghhlaaGreatDoorR03
set_option linter.unusedSimpArgs false
set_option linter.unusedVariables false
set_option linter.unusedSectionVars false
set_option maxRecDepth 1000000
set_option maxHeartbeats 16000000
namespace Go.Proofs.YtjlgejennghhlaaGreatDoor
open Go.RowKit
theorem Qmp {w h:World} {B B':Nat} {u v:Value} {e I:TypeId} {z J k k':Nat} {xs y:List Value} (H:w.ownsRow B e z u k xs) (D:h.ownsRow B' I J v k' y) (K:w.heap.size<=B'):Apart u v:=by
 intro b F E;have:=(H.lt b F).2;have:=(D.lt b E).1;omega
theorem QkR {w E:World} {B B':Nat} {us:List Value} {rs:List (List Vl)} {u:Value} {J:TypeId} {K k':Nat} {F:List Value} (h:us.Pairwise Apart) (D:Qab w B us rs) (H:E.ownsRow B' J K u k' F) (I:w.heap.size<=B'):(us++[u]).Pairwise Apart:=by
 rw[List.pairwise_append];refine⟨h,List.pairwise_singleton _ _,fun a ha b hb=>?_⟩;simp at hb;subst hb;obtain⟨j,y,rfl⟩:=List.mem_iff_getElem.1 ha;exact Qmp (D.2 j y (by rw[<-D.1];exact y)).1 H I
theorem Qh0 (v:Value) (rs:List (List Vl)) (m:Nat) (w:World) (hr:QaG w v rs) (hl:∀r∈rs,r.length=m) (h1:1<=m) (h6:m<=100) (aI:rs.length<=100):
 Calls Tryz.prog 137 #[v] w fun e w'=>∃v' us,e=.returned v'/\w'.ownsRow w.heap.size 84 1 v' rs.length us/\Qab w' w.heap.size us rs/\us.Pairwise Apart/\Below w.heap.size w w':=by
 obtain⟨i0,hi,ap,aq,au⟩:=info_parts Tryz.infoRow;have HR:=Hk hr;have HL:=Hk hl;clear hl;obtain⟨va,aL,rfl,-⟩:=hr;go_enter Tryz.func137,Tryz.ntmps137;go_wp2;go_loopw [3,8] (fun l i wr=>∃(k:Nat) (us:List Value),k<=rs.length/\i=.int .i64 k/\wr.ownsRow w.heap.size 84 1 l k us/\Qab wr w.heap.size us (rs.take k)/\us.Pairwise Apart/\Below w.heap.size w wr) (fun _ i _=>rs.length-(intOf i).toNat)
 case atStart=>exact⟨0,[],Nat.zero_le _,rfl,World.ownsRow_nil _ _ _ _,Qab.nil _ _,List.Pairwise.nil,Below.refl _ _⟩
 case round=>
  obtain⟨k,us,hk,rfl,D,h,I,F⟩:=hrel;obtain⟨la,lc,rfl⟩:=own_slice D;have E:=Hk (Ai D (Ai h I));have HX:=Hk F;have aJ:=F.size
  by_cases hlt:k<rs.length
  ·obtain⟨b,o,c,ab,am,af⟩:=QgS HR.out (by omega);simp only[Value.slice.injEq,true_and] at ab;obtain⟨rfl,rfl⟩:=ab;obtain⟨u,hu,N⟩:=af k hlt;have cu:=cK F am hu;have ad:=N.below F;obtain⟨ua,uc,rfl⟩:=row_slice N;have aj:=HL.out _ (List.getElem_mem hlt);have ac:=Qdd _ _ wr ad (by omega) (by omega);have ai:∀x∈rs[k],x.2.2.size<=maxLen:=by obtain⟨_,_,_,hs,_⟩:=N;exact hs
   have HC:=Hk ac;have HS:=Hk (Ai ai aj);clear ac af hu N ad F D h ai aj I;generalize ae:rs[k]=rk at*;have ax:=Hk ae;clear ae;go_wp2_with (first|(go_at_call 103;refine HC.out.mono ?_;rintro e w1 ⟨v1,rfl,J,H⟩;obtain⟨O,K,rfl⟩:=own_slice J)|(at_builtin;refine wpList_append_own _ rfl _ _ 52 rfl w.heap.size 84 i0 (.slice none 0 0) 1 24 Tryz.underlying52 hi ap aq au rfl (by decide) _ _ _ rfl ((owns_below E.out.1 H).alloc _) ⟨w1.heap.size,0,none⟩ 1 1 [.slice O rk.length K] rfl rfl (news1 _ _ _ _ rfl) (Qc4 _ _ _) ?c3 ?c4 ?c5 ?_))
   case c3=>unfold maxLen;omega
   case c4=>omega
   case c5=>have:=H.size;simp;omega
   intro v' w5 M y _;have aK:=H.size;have V:Below w.heap.size w w5:=((bel_then HX.out H).alloc (by omega) _).grown y (by simp;omega) (fun q hq=>(E.out.1.lt q hq).1);have U:=((owns_below E.out.1 H).alloc (.cells #[.slice O rk.length K] 84));have ak:=((E.out.2.1.below H).below (Qaa w1 (.cells #[.slice O rk.length K] 84))).grow U y;have ag:=(J.alloc (.cells #[.slice O rk.length K] 84)).kept y (Qb4 (by decide) (J.alloc _) U);have Z:=ak.snoc (own_mono (by omega) ag) HS.out.1;have ah:=QkR E.out.2.2 E.out.2.1 J (Nat.le_refl _);rw[show rs.take k++[rk]=rs.take (k+1) by rw[List.take_succ_eq_append_getElem hlt,ax.out]] at Z;have HF:=Hk (Ai M (Ai Z (Ai ah V)));clear M y Z V ak ag U ah;go_wp2;go_roundw
   case rel=>exact⟨k+1,_,by omega,by go_num,HF.out.1,HF.out.2.1,HF.out.2.2.1,HF.out.2.2.2⟩
   case measure=>simp[intOf];omega
  ·have ar:k=rs.length:=by omega
   subst ar;rw[List.take_of_length_le (Nat.le_refl _)] at h;clear E;have E:=Hk (Ai D (Ai h I));clear D h F I;go_wp2;go_ret;exact⟨_,us,rfl,E.out.1,E.out.2.1,E.out.2.2,HX.out⟩
theorem Qh1 (r:List Vl) (i:Nat) (x:Vl):Qag (r.set i x)=(((Qag r).set (i*3) (.int .i64 x.1)).set (i*3+1) (.int .i64 x.2.1)).set (i*3+2) (.string x.2.2)\/¬i<r.length:=by
 by_cases h:i<r.length
 ·left
  induction r generalizing i with
  |nil=>simp at h
  |cons a r ih=>
   cases i with
   |zero=>simp[Qag]
   |succ i=>
    have h':i<r.length:=by simpa using h
    have e:=ih i h';simp only[Qag,List.set_cons_succ,List.flatMap_cons] at e⊢;rw[e,show(i+1)*3=i*3+3 by omega];simp[List.set_cons_succ]
 ·exact Or.inr h
theorem QpC {w:World} {B g c:Nat} {r:List Vl} (h:w.ownsRow B 46 3 (.slice (some ⟨g,0,none⟩) r.length c) r.length (Qag r)) (i:Nat) (x:Vl) (y:i<r.length):
 (((w.setCell ⟨g,i*3,none⟩ (.int .i64 x.1)).setCell ⟨g,i*3+1,none⟩ (.int .i64 x.2.1)).setCell ⟨g,i*3+2,none⟩ (.string x.2.2)).ownsRow B 46 3 (.slice (some ⟨g,0,none⟩) r.length c) r.length (Qag (r.set i x)):=by
 have e:=(Qh1 r i x).resolve_right (fun h=>h y);rw[e];exact(((h.stored _ _).1.stored _ _).1.stored _ _).1
theorem Qh2 {w:World} {B g n a b c:Nat} {x y z u:Value} {e:TypeId} {s:Nat} {xs:List Value} (h:w.ownsRow B e s u n xs) (D:u.ownBlock≠some g):(((w.setCell ⟨g,a,none⟩ x).setCell ⟨g,b,none⟩ y).setCell ⟨g,c,none⟩ z).ownsRow B e s u n xs:=
 ownsRow_setCell_other (ownsRow_setCell_other (ownsRow_setCell_other h D _) D _) D _
theorem Qab.store {w:World} {B g c k:Nat} {us:List Value} {rs:List (List Vl)} (h:Qab w B us rs) (U:us.Pairwise Apart) (V:k<rs.length) (E:us[k]? =some (.slice (some ⟨g,0,none⟩) rs[k].length c)) (i:Nat) (x:Vl) (Z:i<rs[k].length) (hx:x.2.2.size<=maxLen):
 Qab (((w.setCell ⟨g,i*3,none⟩ (.int .i64 x.1)).setCell ⟨g,i*3+1,none⟩ (.int .i64 x.2.1)).setCell ⟨g,i*3+2,none⟩ (.string x.2.2)) B us (rs.set k (rs[k].set i x)):=by
 have F:k<us.length:=by rw[h.1];exact V
 rw[List.getElem?_eq_getElem F] at E;injection E with E;refine⟨by simp[h.1],fun j hj hj'=>?_⟩;have K:j<rs.length:=by simpa using hj'
 by_cases e:k=j
 ·subst e;obtain⟨H,M⟩:=h.2 k hj K;simp only[List.getElem_set_self,List.length_set];rw[E] at H⊢;refine⟨QpC H i x Z,fun y D=>?_⟩;rcases List.mem_or_eq_of_mem_set D with D|D
  ·exact M y D
  ·rw[D];exact hx
 ·obtain⟨H,M⟩:=h.2 j hj K;simp only[List.getElem_set_ne e];refine⟨Qh2 H ?_,M⟩;intro O;have J:=List.pairwise_iff_getElem.1 U;have I:us[k].ownBlock=some g:=by rw[E];rfl
  rcases Nat.lt_or_ge k j with N|ab
  ·exact J k j F hj N g I O
  ·exact J j k hj F (by omega) g O I
theorem QfP (I ho J ae b o n c y F O:Nat) (cs:List Cl) (nm:ByteArray) (j:Jb) (w:World) (h:j.code=2) (ai:0<J) (aj:I<w.heap.size) (h0:w.cell? ⟨I,ho,none⟩=some (.slice (some ⟨b,o,none⟩) n c)) (hj:j.cols=.slice (some ⟨y,F,none⟩) 1 O) (M:y<w.heap.size) (V:w.cell? ⟨y,F,none⟩=some (.string nm)) (U:inS Qbs j.op.data.toList=true)
 (hn:cs.length=n) (Z:n<=100) (N:b<w.heap.size) (hc:Qau w b o cs) (hx:j.left.2.2.2.size<=maxLen) (K:j.right.2.2.2.size<=maxLen):
 Calls Tryz.prog 96 #[.agg j.cells,.slice (some ⟨I,ho,none⟩) J ae] w fun e w'=>e=.returned (QbN (QbZ cs j nm.data.toList))/\Below w.heap.size w w':=by
 have D:=fun W (E:Below w.heap.size w W)=>Qi3 b o n c y F O cs nm j W hj (by have:=E.size;omega) (cK E M V) U hn Z (by have:=E.size;omega) (hc.below E N) hx K
 unfold Jb.cells at D⊢;generalize QbZ cs j nm.data.toList=r at*;obtain⟨code,H⟩:∃k,j.code=k:=⟨_,rfl⟩;rw[H] at D h⊢;clear H;subst h;have HT:=Hk D;have htk':(0:Int)<(J:Int):=by omega
 clear D hn hc V hj;go_enter Tryz.func96,Tryz.ntmps96;go_wp2_with (go_at_call 126;refine(HT.out _ (Qaa _ _)).mono ?_;rintro e w1 ⟨rfl,ad⟩);go_ret;exact⟨rfl,bel_then (Qaa _ _) ad⟩
end Go.Proofs.YtjlgejennghhlaaGreatDoor
namespace Go.Proofs.YtjlgejennghhlaaGreatDoor.Fw
open Go.RowKit
abbrev By:=List UInt8
abbrev Tk:=Nat×By×Nat
abbrev ba (l:By):ByteArray:=⟨l.toArray⟩
abbrev PE (α:Type):=Except (Int×Nat) (α×List Tk)
def blankB (c:UInt8):Bool:=c==32||c==10
def QnF (c:UInt8):Bool:=97<=c.toNat&&c.toNat<=122
def digB (c:UInt8):Bool:=48<=c.toNat&&c.toNat<=57
def lowdigB (c:UInt8):Bool:=QnF c||digB c
def runL (p:UInt8->Bool) (l:By):Nat:=(l.takeWhile p).length
def QaD:List By:=[[60,62],[60,61],[62,61],[60],[62],[61],[43],[45],[42],[44],[59],[58],[46]]
def Qa1:By->Option (Nat×Nat)
 |[]=>none
 |c::r=>
  if QnF c then some (0,runL lowdigB (c::r))
  else if digB c then some (1,runL digB (c::r))
  else if c==39 then(r.findIdx? (·==39)).map fun n=>(2,n+2)
  else(QaD.find? fun m=>m.isPrefixOf (c::r)).map fun m=>(3,m.length)
def QfQ:Nat->By->Nat->Nat->Except (Int×Nat) (List Tk)
 |0,_,_,_=>.ok []
 |g+1,l,at',n=>
  if l.drop (runL blankB l)=[] then .ok []
  else match Qa1 (l.drop (runL blankB l)) with
   |none=>.error (3,at'+runL blankB l)
   |some (k,len)=>
    if n=400 then .error (4,at'+runL blankB l)
    else match QfQ g ((l.drop (runL blankB l)).drop len) (at'+runL blankB l+len) (n+1) with
     |.error e=>.error e
     |.ok ts=>.ok ((k,(l.drop (runL blankB l)).take len,at'+runL blankB l)::ts)
def Qb2 (l:By):Except (Int×Nat) (List Tk):=
 match QfQ (l.length+1) l 0 0 with
 |.error e=>.error e
 |.ok ts=>.ok (ts++[(4,[],l.length)])
def kindT (ts:List Tk):Nat:=match ts with |t::_=>t.1|[]=>4
def Qar (ts:List Tk):By:=match ts with |t::_=>t.2.1|[]=>[]
def Qa6 (ts:List Tk):Nat:=match ts with |t::_=>t.2.2|[]=>0
def wrongP {α:Type} (c:Int) (ts:List Tk):PE α:=.error (c,Qa6 ts)
def QbD (x:By) (ts:List Tk):PE Nat:=if Qar ts=x then .ok (Qa6 ts,ts.tail) else wrongP 3 ts
def Qbe (ts:List Tk):PE By:=if kindT ts≠0 then wrongP 3 ts else if 10<(Qar ts).length then wrongP 4 ts else .ok (Qar ts,ts.tail)
def Qi8 (l:By):Int:=match Lib.atoiAll l with |.ok n=>n|.range=>Lib.atoiSat l|_=>0
def Qho (most:Int) (ts:List Tk):PE Int:=if kindT ts≠1 then wrongP 3 ts else if most<Qi8 (Qar ts) then wrongP 4 ts else .ok (Qi8 (Qar ts),ts.tail)
def QdH (l:By):By:=(l.drop 1).take (l.length-2)
def QkU (ts:List Tk):PE By:=if kindT ts≠2 then wrongP 3 ts else if Qao 2 0 (QdH (Qar ts))=false then wrongP 4 ts else .ok (QdH (Qar ts),ts.tail)
def Qc1 (xs:List By) (ts:List Tk):PE By:=if Qar ts∈xs then .ok (Qar ts,ts.tail) else wrongP 3 ts
abbrev Ag:=By×Int×Int×By
def Qe7 (ts:List Tk):PE Ag:=
 if kindT ts=0 then(Qbe ts).map fun x=>((x.1,0,0,[]),x.2)
 else if kindT ts=2 then(QkU ts).map fun x=>(([],2,0,x.1),x.2)
 else if Qar ts=[45] then(Qho 1000000000 ts.tail).map fun x=>(([],1,-x.1,[]),x.2)
 else(Qho 1000000000 ts).map fun x=>(([],1,x.1,[]),x.2)
def Qew:Nat->List By->List Tk->PE (List By)
 |0,acc,ts=>.ok (acc,ts)
 |g+1,acc,ts=>if Qar ts=[44] then(Qbe ts.tail).bind fun x=>Qew g (acc++[x.1]) x.2 else .ok (acc,ts)
def Qcq (ts:List Tk):PE (List By):=(Qbe ts).bind fun x=>Qew x.2.length [x.1] x.2
structure FIn where
 at_:Nat
 name:By
 cols:List (By×Int)
structure FJob where
 at_:Nat
 code:Int
 outs:List By
 ins:List By
 cols:List By
 op:By
 left:Ag
 right:Ag
 retry:Int
structure FOut where
 at_:Nat
 name:By
 from_:By
structure Flw where
 ins:List FIn
 jobs:List FJob
 outs:List FOut
def wIn:By:=[105,110]
def Qhp:By:=[106,111,98]
def QjM:By:=[111,117,116]
def QnG:By:=[105,110,116]
def Qgg:By:=[116,101,120,116]
def Qh4:By:=[114,101,116,114,121]
def Qmz:By:=[119,104,101,114,101]
def wBy:By:=[98,121]
def wSum:By:=[115,117,109]
def Qqg:By:=[109,97,120]
def Qbw:List By:=[[102,105,108,116,101,114],[115,101,116],[112,114,111,106,101,99,116],[115,111,114,116],[117,110,105,111,110],[100,105,115,116,105,110,99,116],[106,111,105,110],[103,114,111,117,112],[115,112,108,105,116]]
def Qbf (ts:List Tk):PE (By×Int):=(Qbe ts).bind fun x=>
 if Qar x.2=QnG then .ok ((x.1,1),x.2.tail) else if Qar x.2=Qgg then .ok ((x.1,2),x.2.tail) else wrongP 3 x.2
def QfR:Nat->List (By×Int)->List Tk->PE (List (By×Int))
 |0,acc,ts=>.ok (acc,ts)
 |g+1,acc,ts=>if Qar ts=[44] then(Qbf ts.tail).bind fun x=>QfR g (acc++[x.1]) x.2 else .ok (acc,ts)
def Qc2 (ts:List Tk):PE FIn:=
 (QbD wIn ts).bind fun a=>(Qbe a.2).bind fun n=>(QbD [58] n.2).bind fun c=>(Qbf c.2).bind fun x=>(QfR x.2.length [x.1] x.2).bind fun l=>
 (QbD [59] l.2).bind fun e=>.ok (⟨a.1,n.1,l.1⟩,e.2)
def Qci (ts:List Tk):PE Int:=match Qbw.findIdx? (·==Qar ts) with
 |some i=>.ok ((i:Int)+1,ts.tail)
 |none=>wrongP 3 ts
def cmpL:List By:=[[61],[60,62],[60],[60,61],[62],[62,61]]
def ariL:List By:=[[43],[45],[42]]
def Qlv:Ag:=([],0,0,[])
def Qca (at_:Nat) (outs:List By) (retry:Int) (ts:List Tk):PE FJob:=
 (Qci ts).bind fun c=>(Qbe c.2).bind fun i=>
 if c.1=1\/c.1=9 then
  (QbD Qmz i.2).bind fun m=>(Qbe m.2).bind fun l=>(Qc1 cmpL l.2).bind fun o=>(Qe7 o.2).bind fun r=>
  .ok (⟨at_,c.1,outs,[i.1],[],o.1,(l.1,0,0,[]),r.1,retry⟩,r.2)
 else if c.1=2 then
  (QbD [58] i.2).bind fun m=>(Qbe m.2).bind fun n=>(QbD [61] n.2).bind fun q=>(Qe7 q.2).bind fun l=>(Qc1 ariL l.2).bind fun o=>(Qe7 o.2).bind fun r=>
  .ok (⟨at_,c.1,outs,[i.1],[n.1],o.1,l.1,r.1,retry⟩,r.2)
 else if c.1=3\/c.1=4 then
  (QbD wBy i.2).bind fun m=>(Qcq m.2).bind fun n=>
  .ok (⟨at_,c.1,outs,[i.1],n.1,[],Qlv,Qlv,retry⟩,n.2)
 else if c.1=5 then
  (QbD [44] i.2).bind fun m=>(Qbe m.2).bind fun n=>
  .ok (⟨at_,c.1,outs,[i.1,n.1],[],[],Qlv,Qlv,retry⟩,n.2)
 else if c.1=7 then
  (QbD [46] i.2).bind fun m=>(Qbe m.2).bind fun a=>(QbD [44] a.2).bind fun q=>(Qbe q.2).bind fun j=>(QbD [46] j.2).bind fun d=>(Qbe d.2).bind fun b=>
  .ok (⟨at_,c.1,outs,[i.1,j.1],[a.1,b.1],[],Qlv,Qlv,retry⟩,b.2)
 else if c.1=8 then
  (QbD wBy i.2).bind fun m=>(Qbe m.2).bind fun a=>(Qc1 [wSum,Qqg] a.2).bind fun o=>(Qbe o.2).bind fun b=>
  .ok (⟨at_,c.1,outs,[i.1],[a.1,b.1],o.1,Qlv,Qlv,retry⟩,b.2)
 else .ok (⟨at_,c.1,outs,[i.1],[],[],Qlv,Qlv,retry⟩,i.2)
def QfS (ts:List Tk):PE Int:=if Qar ts=Qh4 then Qho 5 ts.tail else .ok (0,ts)
def QmA (ts:List Tk):PE FJob:=
 (QbD Qhp ts).bind fun a=>(Qcq a.2).bind fun o=>(QfS o.2).bind fun r=>(QbD [61] r.2).bind fun q=>(Qca a.1 o.1 r.1 q.2).bind fun j=>(QbD [59] j.2).bind fun e=>.ok (j.1,e.2)
def Qbt (ts:List Tk):PE FOut:=
 (QbD QjM ts).bind fun a=>(Qbe a.2).bind fun n=>(QbD [61] n.2).bind fun q=>(Qbe q.2).bind fun f=>(QbD [59] f.2).bind fun e=>.ok (⟨a.1,n.1,f.1⟩,e.2)
def partsP {α:Type} (x:By) (p:List Tk->PE α):Nat->List α->List Tk->PE (List α)
 |0,acc,ts=>.ok (acc,ts)
 |g+1,acc,ts=>if Qar ts=x then(if acc.length=16 then wrongP 4 ts else(p ts).bind fun y=>partsP x p g (acc++[y.1]) y.2) else .ok (acc,ts)
def QeZ (f:Flw) (ts:List Tk):Except (Int×Nat) Flw:=
 if Qar ts=wIn/\f.ins.length=16 then .error (4,Qa6 ts)
 else if Qar ts=Qhp/\f.jobs.length=16 then .error (4,Qa6 ts)
 else if kindT ts≠4 then .error (3,Qa6 ts) else .ok f
def Qc7 (ts:List Tk):Except (Int×Nat) Flw:=
 (partsP wIn Qc2 ts.length [] ts).bind fun i=>(partsP Qhp QmA i.2.length [] i.2).bind fun j=>(partsP QjM Qbt j.2.length [] j.2).bind fun o=>QeZ ⟨i.1,j.1,o.1⟩ o.2
def parseF (l:By):Except (Int×Nat) Flw:=(Qb2 l).bind Qc7
def Qdj:List By:=[]::Qbw
def Qed:List By:=[[],QnG,Qgg]
def Qa7:List Nat:=[1,5,3,6,7,10]
theorem var?_block {P:Program} {g:Nat} {W y:World} {n:String} {cs:Array Value} (D:P.globalNamed n=some g) (E:y.heap[g]? =W.heap[g]?) (h:W.var? P n=some cs):y.var? P n=some cs:=by
 unfold World.var? at h⊢;simp only[D,Option.bind_some] at h⊢;rw[E];exact h
structure FEnv (w:World):Prop where
 size:∀g,g∈Qa7->g<w.heap.size
 mr:∀(j:Nat) (h:j<QaD.length),w.cell? ⟨1,j,none⟩=some (.string (ba QaD[j]))
 vb:∀(j:Nat) (h:j<Qdj.length),w.cell? ⟨5,j,none⟩=some (.string (ba Qdj[j]))
 kd:∀(j:Nat) (h:j<Qed.length),w.cell? ⟨3,j,none⟩=some (.string (ba Qed[j]))
 es:∃tp p,w.var? Tryz.prog "strconv.ErrSyntax"=some #[.iface tp p]
 er:∃tp p,w.var? Tryz.prog "strconv.ErrRange"=some #[.iface tp p]
 pw:Lib.TabIs Tryz.prog w "internal/strconv.uint64pow10" .u64 Lib.pow10Tab
theorem FEnv.blocks {w w':World} (h:FEnv w) (H:w.heap.size<=w'.heap.size) (y:∀g,g∈Qa7->w'.heap[g]? =w.heap[g]?):FEnv w':=by
 have F:∀g,g∈Qa7->∀j,w'.cell? ⟨g,j,none⟩=w.cell? ⟨g,j,none⟩:=fun g hg j=>World.cell?_of_block (w:=w) (y g hg)
 refine⟨fun g hg=>Nat.lt_of_lt_of_le (h.size g hg) H,fun j hj=>?_,fun j hj=>?_,fun j hj=>?_,?_,?_,?_⟩
 ·rw[F _ (by simp[Qa7])];exact h.mr j hj
 ·rw[F _ (by simp[Qa7])];exact h.vb j hj
 ·rw[F _ (by simp[Qa7])];exact h.kd j hj
 ·obtain⟨E,p,D⟩:=h.es;exact⟨E,p,var?_block (g:=6) (by kernel_rfl) (y _ (by simp[Qa7])) D⟩
 ·obtain⟨E,p,D⟩:=h.er;exact⟨E,p,var?_block (g:=7) (by kernel_rfl) (y _ (by simp[Qa7])) D⟩
 ·exact var?_block (g:=10) (by kernel_rfl) (y _ (by simp[Qa7])) h.pw
abbrev But (R:Nat) (w w':World):Prop:=w.grownBy w' (some R)
theorem But.refl (R:Nat) (w:World):But R w w:=⟨rfl,rfl,rfl,Nat.le_refl _,fun _ _ _=>rfl⟩
theorem But.of {R:Nat} {w w':World} (h:Below w.heap.size w w'):But R w w':=⟨h.os,h.tape,h.output,h.size,fun k hk _=>h.block k hk⟩
theorem But.then {R:Nat} {a b c:World} (h:But R a b) (k:But R b c):But R a c:=
 ⟨k.os.trans h.os,k.tape.trans h.tape,k.output.trans h.output,Nat.le_trans h.size k.size,fun i hi hne=>(k.block i (Nat.lt_of_lt_of_le hi h.size) hne).trans (h.block i hi hne)⟩
theorem But.cell {R:Nat} {w w':World} (h:But R w w') {p:Addr} (y:p.block<w.heap.size) (D:p.block≠R):w'.cell? p=w.cell? p:=
 World.cell?_of_block (w:=w) (h.block p.block y (by intro e;injection e with e;exact D e))
theorem But.below {R B:Nat} {w w':World} (h:But R w w') (D:B<=R) (y:B<=w.heap.size):Below B w w':=
 ⟨h.os,h.tape,h.output,h.size,fun k hk=>h.block k (by omega) (by intro e;injection e with e;omega)⟩
theorem But.set (R o:Nat) (w:World) (v:Value):But R w (w.setCell ⟨R,o,none⟩ v):=
 ⟨rfl,rfl,rfl,by simp[World.setCell],fun k hk hne=>Below.heap_setCell _ _ _ _ (by intro e;exact hne (by rw[e]))⟩
theorem But.box {R:Nat} {w w':World} (h:But R w w') (o:Obj):But R w (w'.alloc o):=h.then (But.of (Qaa _ _))
def Box (w:World) (k:Nat) (vs:List Value):Prop:=∃T,w.heap[k]? =some (.cells vs.toArray T (0,0))
theorem Box.lt {w:World} {k:Nat} {D:List Value} (h:Box w k D):k<w.heap.size:=by
 obtain⟨T,h⟩:=h;rcases Nat.lt_or_ge k w.heap.size with y|y
 ·exact y
 ·rw[Array.getElem?_eq_none y] at h;simp at h
theorem Box.cell {w:World} {k:Nat} {y:List Value} (h:Box w k y) (i:Nat) {v:Value} (D:y[i]? =some v):w.cell? ⟨k,i,none⟩=some v:=by
 obtain⟨T,h⟩:=h;simp[World.cell?,h,D]
theorem Box.fz {w:World} {k:Nat} {y:List Value} (h:Box w k y) (i:Nat):w.frozen? ⟨k,i,none⟩=false:=by
 obtain⟨T,h⟩:=h;simp[World.frozen?,h]
theorem Box.block {w w':World} {k:Nat} {y:List Value} (h:Box w k y) (D:w'.heap[k]? =w.heap[k]?):Box w' k y:=by
 obtain⟨T,h⟩:=h;exact⟨T,D.trans h⟩
theorem Box.below {w w':World} {k:Nat} {y:List Value} (h:Box w k y) (D:Below w.heap.size w w'):Box w' k y:=h.block (D.block k h.lt)
theorem Box.but {R:Nat} {w w':World} {k:Nat} {y:List Value} (h:Box w k y) (E:But R w w') (D:k≠R):Box w' k y:=h.block (E.block k h.lt (by intro e;injection e with e;exact D e))
theorem Box.new (w:World) (h:List Value) (T:TypeId) (k:Nat) (y:k=w.heap.size):Box (w.alloc (.cells h.toArray T)) k h:=by
 subst y;exact⟨T,by show(w.heap.push _)[w.heap.size]? =_;simp⟩
theorem Box.set {w:World} {k:Nat} {y:List Value} (h:Box w k y) (i:Nat) (v:Value):Box (w.setCell ⟨k,i,none⟩ v) k (y.set i v):=by
 obtain⟨T,h⟩:=h;exact⟨T,by simp[World.setCell,Array.getElem?_modify,h]⟩
theorem Box.other {w:World} {k k':Nat} {y:List Value} (h:Box w k y) (i:Nat) (v:Value) (D:k≠k'):Box (w.setCell ⟨k',i,none⟩ v) k y:=h.block (Below.heap_setCell _ _ _ _ D)
def QfT (w:World) (b o:Nat) (ts:List Tk):Prop:=
 ∀(j:Nat) (h:j<ts.length),w.cell? ⟨b,o+j*3,none⟩=some (.int .i64 ts[j].1)/\w.cell? ⟨b,o+j*3+1,none⟩=some (.string (ba ts[j].2.1))/\w.cell? ⟨b,o+j*3+2,none⟩=some (.int .i64 ts[j].2.2)
theorem QfT.but {R:Nat} {w w':World} {b o:Nat} {ts:List Tk} (h:QfT w b o ts) (E:But R w w') (y:b<w.heap.size) (D:b≠R):QfT w' b o ts:=
 fun j hj=>⟨(E.cell (p:=⟨b,o+j*3,none⟩) y D).trans (h j hj).1,(E.cell (p:=⟨b,o+j*3+1,none⟩) y D).trans (h j hj).2.1,(E.cell (p:=⟨b,o+j*3+2,none⟩) y D).trans (h j hj).2.2⟩
structure GoodT (ts:List Tk):Prop where
 last:∃l e,ts=l++[e]/\e.1=4/\e.2.1=[]
 small:∀t∈ts,t.1<=4/\t.2.1.length<=1000000/\t.2.2<=1000000/\(t.1=2->2<=t.2.1.length)/\(t.1=1->(t.2.1.head?.map (·.toNat))≠some 45)
 len:ts.length<=1000
theorem GoodT.ne {ts:List Tk} (h:GoodT ts):∃t r,ts=t::r:=by
 obtain⟨l,e,rfl,-⟩:=h.last
 cases l with
 |nil=>exact⟨_,_,rfl⟩
 |cons a l=>exact⟨_,_,rfl⟩
theorem GoodT.tail {t:Tk} {r:List Tk} (h:GoodT (t::r)) (y:t.1≠4\/t.2.1≠[]):GoodT r:=by
 obtain⟨l,e,D,F,E⟩:=h.last
 cases l with
 |nil=>
  simp at D;obtain⟨rfl,rfl⟩:=D;rcases y with y|y
  ·exact absurd F y
  ·exact absurd E y
 |cons a l=>
  simp at D;refine⟨⟨l,e,D.2,F,E⟩,fun x hx=>h.small x (by simp[hx]),?_⟩;have:=h.len;simp at this;omega
structure RD (w:World) (R:Nat) (ts:List Tk):Prop where
 cell:∃b o c,w.cell? ⟨R,0,none⟩=some (.slice (some ⟨b,o,none⟩) ts.length c)/\ts.length<=c/\b<R/\QfT w b o ts
 lt:R<w.heap.size
 fz:w.frozen? ⟨R,0,none⟩=false
 good:GoodT ts
 env:FEnv w
 out:∀g,g∈Qa7->g<R
theorem RD.below {w w':World} {R:Nat} {ts:List Tk} (h:RD w R ts) (y:Below w.heap.size w w'):RD w' R ts:=by
 obtain⟨b,o,c,H,D,E,F⟩:=h.cell;have I:=h.lt;exact⟨⟨b,o,c,cK y h.lt H,D,E,F.but (R:=R) (But.of y) (by omega) (by omega)⟩,Nat.lt_of_lt_of_le h.lt y.size,(y.frozen (p:=⟨R,0,none⟩) h.lt).trans h.fz,h.good,h.env.blocks y.size (fun g hg=>y.block g (h.env.size g hg)),h.out⟩
theorem RD.set {w:World} {R k i:Nat} {v:Value} {ts:List Tk} (h:RD w R ts) (J:R<k):RD (w.setCell ⟨k,i,none⟩ v) R ts:=by
 obtain⟨b,o,c,I,E,F,H⟩:=h.cell;have D:=h.lt;have y:=But.set k i w v;exact⟨⟨b,o,c,(y.cell (p:=⟨R,0,none⟩) D (by show R≠k;omega)).trans I,E,F,H.but y (by omega) (by omega)⟩,by simp[World.setCell];omega,by rw[World.frozen?_setCell];exact h.fz,h.good,h.env.blocks y.size (fun g hg=>y.block g (h.env.size g hg) (by intro e;injection e with e;have:=h.out g hg;omega)),h.out⟩
theorem But.put {R k i:Nat} {w w':World} (h:But R w w') (y:w.heap.size<=k) (v:Value):But R w (w'.setCell ⟨k,i,none⟩ v):=
 ⟨h.os,h.tape,h.output,by have:=h.size;simp[World.setCell];omega,fun j hj hne=>(Below.heap_setCell _ _ _ _ (by show j≠k;omega)).trans (h.block j hj hne)⟩
def Thr (e:Ending) (w':World) (B:Nat) (er:Int×Nat):Prop:=
 ∃b,e=.panicked [{v:=.iface 100 (.pointer (some ⟨b,0,none⟩)),recovered:=false}]/\w'.cell? ⟨b,0,none⟩=some (.int .i64 er.1)/\w'.cell? ⟨b,1,none⟩=some (.int .i64 er.2)/\B<=b/\b<w'.heap.size
def Rs {α:Type} (r:PE α) (enc:α->Value->World->Prop) (e:Ending) (B:Nat) (w':World) (R:Nat):Prop:=
 (∃a ts' v,r=.ok (a,ts')/\e=.returned v/\enc a v w'/\RD w' R ts')\/(∃er,r=.error er/\Thr e w' B er)
theorem wrong_any (c h:Int) (w:World):Calls Tryz.prog 78 #[.int .i64 c,.int .i64 h] w fun e w'=>e=.returned (.pointer (some ⟨w.heap.size,0,none⟩))/\w'=w.alloc (.cells #[.int .i64 c,.int .i64 h] 155):=by
 go_enter Tryz.func78,Tryz.ntmps78;go_wp2;go_ret;exact⟨rfl,rfl⟩
theorem RD.head {w:World} {R:Nat} {ts:List Tk} (h:RD w R ts):∃(b o c:Nat) (n:Nat),w.cell? ⟨R,0,none⟩=some (.slice (some ⟨b,o,none⟩) (n+1) c)/\n+1=ts.length/\n+1<=c/\b<w.heap.size/\b<R/\n<=1000/\w.cell? ⟨b,o,none⟩=some (.int .i64 (kindT ts))/\w.cell? ⟨b,o+1,none⟩=some (.string (ba (Qar ts)))/\w.cell? ⟨b,o+2,none⟩=some (.int .i64 (Qa6 ts)):=by
 obtain⟨b,o,c,E,D,F,H⟩:=h.cell;have I:b<w.heap.size:=by have:=h.lt;omega
 obtain⟨t,r,rfl⟩:=h.good.ne;have y:=H 0 (by simp);have J:=h.good.len;simp only[List.length_cons] at E D J;refine⟨b,o,c,r.length,E,rfl,D,I,F,by omega,?_,?_,?_⟩
 ·simpa [kindT] using y.1
 ·simpa [Qar] using y.2.1
 ·simpa [Qa6] using y.2.2
theorem Qbc (c:Int) (R:Nat) (ts:List Tk) (w:World) (h:RD w R ts):Calls Tryz.prog 83 #[.pointer (some ⟨R,0,none⟩),.int .i64 c] w fun e w'=>e=.returned (.pointer (some ⟨w.heap.size,0,none⟩))/\w'=w.alloc (.cells #[.int .i64 c,.int .i64 (Qa6 ts)] 155):=by
 obtain⟨b,o,H,n,J,K,y,I,F,E,k0,k1,k2⟩:=h.head;have D:=h.lt;go_enter Tryz.func83,Tryz.ntmps83;go_wp2_with (go_at_call 78;refine(wrong_any _ _ _).mono ?_;rintro e w' ⟨rfl,rfl⟩);go_ret;exact⟨rfl,rfl⟩
theorem Qpn (x:By) (R:Nat) (ts:List Tk) (w:World) (h:RD w R ts):Calls Tryz.prog 110 #[.pointer (some ⟨R,0,none⟩),.string (ba x)] w fun e w'=>e=.returned (.bool (Qar ts==x))/\w'=w:=by
 obtain⟨b,o,H,n,J,K,y,I,F,E,k0,k1,k2⟩:=h.head;have D:=h.lt;go_enter Tryz.func110,Tryz.ntmps110;go_wp2;go_ret;exact⟨rfl,rfl⟩
theorem QfT.tail {w:World} {b o:Nat} {t:Tk} {r:List Tk} (h:QfT w b o (t::r)):QfT w b (o+3) r:=by
 intro j y;have:=h (j+1) (by simp;omega);rw[show o+(j+1)*3=o+3+j*3 by omega] at this;simpa using this
theorem RD.taken {w:World} {R b o c:Nat} {ts:List Tk} (h:RD w R ts) (K:kindT ts≠4\/Qar ts≠[]) (E:w.cell? ⟨R,0,none⟩=some (.slice (some ⟨b,o,none⟩) ts.length c)):
 RD (w.setCell ⟨R,0,none⟩ (.slice (some ⟨b,o+3,none⟩) ts.tail.length (c-1))) R ts.tail:=by
 obtain⟨O,U,N,y,H,I,J⟩:=h.cell;have M:=h.lt;rw[E] at y;simp only[Option.some.injEq,Value.slice.injEq,Addr.mk.injEq,true_and,and_true] at y;obtain⟨⟨rfl,rfl⟩,rfl⟩:=y;obtain⟨t,r,rfl⟩:=h.good.ne;simp only[List.tail_cons,List.length_cons] at H⊢;have D:=But.set R 0 w (.slice (some ⟨b,o+3,none⟩) r.length (c-1));have F:(w.setCell ⟨R,0,none⟩ (.slice (some ⟨b,o+3,none⟩) r.length (c-1))).heap.size=w.heap.size:=by simp[World.setCell]
 refine⟨⟨b,o+3,c-1,?_,by omega,I,(J.tail).but D (by omega) (by omega)⟩,by rw[F];exact h.lt,?_,h.good.tail K,h.env.blocks D.size (fun g hg=>D.block g (h.env.size g hg) (by intro e;injection e with e;have:=h.out g hg;omega)),h.out⟩
 ·exact World.cell?_setCell_same _ _ _ E
 ·rw[World.frozen?_setCell];exact h.fz
theorem Qee (R:Nat) (ts:List Tk) (w:World) (h:RD w R ts) (J:kindT ts≠4\/Qar ts≠[]):Calls Tryz.prog 153 #[.pointer (some ⟨R,0,none⟩)] w fun e w'=>e=.returned (.tuple #[])/\RD w' R ts.tail/\But R w w':=by
 obtain⟨b,o,F,n,I,D,K,Z,V,O,k0,k1,k2⟩:=h.head;have E:=Hk (h.taken J (by rw[<-D];exact I));have M:=h.lt;have N:=h.fz;have y:ts.tail.length=n:=by rw[List.length_tail];omega
 rw[y] at E;have U:¬F=1:=by
  obtain⟨t,r,H⟩:=E.out.good.ne;rw[H] at y;simp at y;omega
 clear D y;go_enter Tryz.func153,Tryz.ntmps153;go_wp2
 go_end0
 exact⟨rfl,E.out,But.set _ _ _ _⟩
theorem Qcu (x:By) (R:Nat) (ts:List Tk) (w:World) (h:RD w R ts) (I:x≠[]):Calls Tryz.prog 114 #[.pointer (some ⟨R,0,none⟩),.string (ba x)] w fun e w'=>e=.returned (.bool (Qar ts==x))/\RD w' R (if Qar ts=x then ts.tail else ts)/\But R w w':=by
 have H:=Hk h;have D:=Hk (fun(J:kindT ts≠4\/Qar ts≠[])=>Qee R ts w h J);have HI:=Hk (Qpn x R ts w h);clear h
 by_cases he:Qar ts=x
 ·have y:(Qar ts==x)=true:=by simp[he]
  rw[y] at HI⊢;rw[if_pos he];have D:=Hk (D.out (Or.inr (by rw[he];exact I)));clear y he;go_enter Tryz.func114,Tryz.ntmps114;go_wp2_with (first|(go_at_call 110;refine HI.out.mono ?_;rintro e w' ⟨rfl,rfl⟩)|(go_at_call 153;refine D.out.mono ?_;rintro e w' ⟨rfl,F,E⟩));go_ret;exact⟨rfl,F,E⟩
 ·have y:(Qar ts==x)=false:=by simp[he]
  rw[y] at HI⊢;rw[if_neg he];clear y he;go_enter Tryz.func114,Tryz.ntmps114;go_wp2_with (first|(go_at_call 110;refine HI.out.mono ?_;rintro e w' ⟨rfl,rfl⟩));go_ret;exact⟨rfl,H.out,But.refl _ _⟩
theorem bel_then {w h D:World} (y:Below w.heap.size w h) (E:Below h.heap.size h D):Below w.heap.size w D:=y.trans (E.mono y.size)
theorem bel_box {w y:World} (h:Below w.heap.size w y) (o:Obj):Below w.heap.size w (y.alloc o):=h.alloc h.size o
theorem grown_below {w w':World} (h:Below w.heap.size w w') (row:Option Nat):w.grownBy w' row:=⟨h.os,h.tape,h.output,h.size,fun k hk _=>h.block k hk⟩
theorem Qqw (w:World) (c:Int) (ts:List Tk) {B b:Nat} (h:B<=w.heap.size) (y:b=w.heap.size):Thr (.panicked [{v:=.iface 100 (.pointer (some ⟨b,0,none⟩)),recovered:=false}]) (w.alloc (.cells #[.int .i64 c,.int .i64 (Qa6 ts)] 155)) B (c,Qa6 ts):=by
 subst y;exact⟨w.heap.size,rfl,by simp,by simp,h,by simp⟩
theorem QcW (w:World) (c:Int) (ts:List Tk) {B:Nat} (h:B<=w.heap.size):Thr (.panicked [{v:=.iface 100 (.pointer (some ⟨w.heap.size,0,none⟩)),recovered:=false}]) (w.alloc (.cells #[.int .i64 c,.int .i64 (Qa6 ts)] 155)) B (c,Qa6 ts):=
 ⟨w.heap.size,rfl,by simp,by simp,h,by simp⟩
theorem QaK (x:By) (R:Nat) (ts:List Tk) (w:World) (h:RD w R ts) (J:x≠[]):Calls Tryz.prog 111 #[.pointer (some ⟨R,0,none⟩),.string (ba x)] w fun e w'=>Rs (QbD x ts) (fun a v _=>v=.int .i64 (a:Nat)) e w.heap.size w' R/\But R w w':=by
 obtain⟨b,o,V,n,hc,I,K,Z,U,N,k0,k1,k2⟩:=h.head;have M:=h.lt;have H:=Hk h;have D:=Hk (Qcu x R ts w h J);clear h I
 by_cases he:Qar ts=x
 ·have E:=Hk (show QbD x ts=.ok (Qa6 ts,ts.tail) by rw[QbD,if_pos he]);have hb':(Qar ts==x)=true:=by simp[he]
  rw[hb',if_pos he] at D;clear hb' he;go_enter Tryz.func111,Tryz.ntmps111;go_wp2_with (first|(go_at_call 114;refine D.out.mono ?_;rintro e w' ⟨rfl,F,y⟩));go_ret;exact⟨Or.inl ⟨_,_,_,E.out,rfl,rfl,F⟩,y⟩
 ·have E:=Hk (show QbD x ts=.error (3,Qa6 ts) by rw[QbD,if_neg he];rfl);have hb':(Qar ts==x)=false:=by simp[he]
  rw[hb',if_neg he] at D;clear hb' he;go_enter Tryz.func111,Tryz.ntmps111;go_wp2_with (first|(go_at_call 114;refine D.out.mono ?_;rintro e w' ⟨rfl,F,y⟩)|(go_at_call 83;refine(Qbc _ _ _ _ F).mono ?_;rintro e O ⟨rfl,rfl⟩));exact⟨rfl,Or.inr ⟨_,E.out,QcW _ _ _ y.size⟩,y.box _⟩
theorem Qg0 (k:Nat) (R:Nat) (ts:List Tk) (w:World) (h:RD w R ts):Calls Tryz.prog 152 #[.pointer (some ⟨R,0,none⟩),.int .i64 k] w fun e w'=>((kindT ts=k/\e=.returned (.agg #[.int .i64 (kindT ts),.string (ba (Qar ts)),.int .i64 (Qa6 ts)]))\/(kindT ts≠k/\Thr e w' w.heap.size (3,Qa6 ts)))/\Below w.heap.size w w':=by
 obtain⟨b,o,U,n,V,D,J,E,O,M,k0,k1,k2⟩:=h.head;have K:=h.lt;have H:=Hk h;have I:=Hk (fun W (E:Below w.heap.size w W)=>Qbc 3 R ts W (h.below E));clear h D
 by_cases he:kindT ts=k
 ·have y:=Hk he;have F:((kindT ts:Int) != (k:Int))=false:=by simp[he]
  clear he;go_enter Tryz.func152,Tryz.ntmps152;go_wp2;refine bodyPost_ret (v:=.agg #[.int .i64 (kindT ts),.string (ba (Qar ts)),.int .i64 (Qa6 ts)]) (by simp[results,Tryz.results152,go_sem]) rfl ?_;exact⟨Or.inl ⟨y.out,rfl⟩,Qaa _ _⟩
 ·have y:=Hk he;have F:((kindT ts:Int) != (k:Int))=true:=by simp;omega
  clear he;go_enter Tryz.func152,Tryz.ntmps152;go_wp2_with (go_at_call 83;refine(I.out _ (Qaa _ _)).mono ?_;rintro e N ⟨rfl,rfl⟩);exact⟨rfl,Or.inr ⟨y.out,Qqw _ _ _ (by simp) (by simp)⟩,bel_box (Qaa _ _) _⟩
def encS:By->Value->World->Prop:=fun a v _=>v=.string (ba a)
def encI:Int->Value->World->Prop:=fun a v _=>v=.int .i64 a
theorem Qg1 (a b c:Value) (w:World):(Instr.field 143 (.agg #[a,b,c]) 1).run Tryz.prog w=.ok b w:=by kernel_rfl
theorem Thr.grow {e:Ending} {w':World} {B B':Nat} {er:Int×Nat} (h:Thr e w' B er) (H:B'<=B):Thr e w' B' er:=by
 obtain⟨b,D,y,E,F,h5⟩:=h;exact⟨b,D,y,E,by omega,h5⟩
theorem Qav (R:Nat) (ts:List Tk) (w:World) (h:RD w R ts):Calls Tryz.prog 112 #[.pointer (some ⟨R,0,none⟩)] w fun e w'=>Rs (Qbe ts) encS e w.heap.size w' R/\But R w w':=by
 have H:=Hk h;have ab:=Qg1;clear h;go_enter Tryz.func112,Tryz.ntmps112;go_wp2_with (go_at_call 152;fail);refine(Qg0 0 R ts w H.out).mono ?_;rintro e w1 ⟨⟨E,rfl⟩|⟨E,F⟩,y⟩
 ·have K:=Hk (H.out.below y);have I:=Hk y;have J:=Hk E;clear y E
  by_cases hl:10<(Qar ts).length
  ·have N:(10:Int)<((Qar ts).length:Int):=by omega
   have D:=Hk (show Qbe ts=.error (4,Qa6 ts) by rw[Qbe,if_neg (by simp[J.out]),if_pos hl];rfl);go_wp2_with (go_at_call 83;refine(Qbc _ _ _ _ K.out).mono ?_;rintro e M ⟨rfl,rfl⟩);exact⟨rfl,Or.inr ⟨_,D.out,QcW _ _ _ I.out.size⟩,But.of (bel_box I.out _)⟩
  ·have N:¬((10:Int)<((Qar ts).length:Int)):=by omega
   have D:=Hk (show Qbe ts=.ok (Qar ts,ts.tail) by rw[Qbe,if_neg (by simp[J.out]),if_neg hl]);go_wp2_with (go_at_call 153;refine(Qee _ _ _ K.out (Or.inl (by rw[J.out];decide))).mono ?_;rintro e M ⟨rfl,h1,Z⟩);go_ret;exact⟨Or.inl ⟨_,_,_,D.out,rfl,rfl,h1⟩,(But.of I.out).then Z⟩
 ·obtain⟨b',rfl,t0,U,V,O⟩:=F;have D:=Hk (show Qbe ts=.error (3,Qa6 ts) by rw[Qbe,if_pos E];rfl);go_wp2;exact⟨rfl,Or.inr ⟨_,D.out,b',rfl,t0,U,V,O⟩,But.of y⟩
theorem ba_list (l:By):(ba l).data.toList=l:=by simp
theorem Qdk (l:By):(ba l).size=l.length:=by simp[ByteArray.size]
theorem QgE {ts:List Tk} (h:GoodT ts):(Qar ts).length<=1000000:=by
 obtain⟨t,r,rfl⟩:=h.ne;exact(h.small t (by simp)).2.1
theorem QmB (l:By) (w:World) (K:l.length<=1000000) (h:FEnv w):Calls Tryz.prog 121 #[.string (ba l)] w fun e w'=>(∃q,e=.returned (.tuple #[.int .i64 (Qi8 l),q]))/\Below w.heap.size w w':=by
 obtain⟨F,E,J⟩:=h.es;obtain⟨D,I,H⟩:=h.er;have M:=Qdk l;unfold Qi8;rcases QlF (Lib.atoiAll l) with ⟨n,g⟩|g|g
 ·rw[g];have g':Lib.atoiAll (ba l).data.toList=.ok n:=by rw[ba_list];exact g
  exact(QlG (ba l) w n (by omega) g').mono fun _ _ x=>⟨⟨_,x.1⟩,x.2⟩
 ·have g':Lib.atoiAll (ba l).data.toList=Lib.atoiAll []:=by rw[ba_list];exact g
  rw[g];exact(Tryz.strconv_Atoi_syntax_var (ba l) (by omega) g' F E w J).mono fun _ _ ⟨N,x,_,_,y⟩=>⟨⟨_,x⟩,y⟩
 ·have g':Lib.atoiAll (ba l).data.toList=.range:=by rw[ba_list];exact g
  rw[g];exact(Tryz.strconv_Atoi_range_var (ba l) (by omega) g' D I w H).mono fun _ _ ⟨N,x,_,_,y⟩=>⟨⟨_,x.trans (by rw[ba_list])⟩,y⟩
theorem Qg2 (y:Int) (R:Nat) (ts:List Tk) (w:World) (h:RD w R ts):Calls Tryz.prog 116 #[.pointer (some ⟨R,0,none⟩),.int .i64 y] w fun e w'=>Rs (Qho y ts) encI e w.heap.size w' R/\But R w w':=by
 have H:=Hk h;have ad:=Qg1;clear h;go_enter Tryz.func116,Tryz.ntmps116;go_wp2_with (go_at_call 152;fail);refine(Qg0 1 R ts w H.out).mono ?_;rintro e w1 ⟨⟨J,rfl⟩|⟨J,K⟩,D⟩
 ·have M:=Hk (H.out.below D);have HB:=Hk D;have O:=Hk J;clear D J;go_wp2_with (go_at_call 121;fail);refine(QmB _ w1 (QgE M.out.good) M.out.env).mono ?_;rintro e w2 ⟨⟨q,rfl⟩,F⟩;have Z:=Hk (M.out.below F);have E:=Hk (bel_then HB.out F);clear F;generalize V:Qi8 (Qar ts)=n;have N:=Hk V;clear V
  by_cases hl:y<n
  ·have I:=Hk (show Qho y ts=.error (4,Qa6 ts) by rw[Qho,if_neg (by simp[O.out]),if_pos (by rw[N.out];exact hl)];rfl);go_wp2_with (go_at_call 83;refine(Qbc _ _ _ _ Z.out).mono ?_;rintro e U ⟨rfl,rfl⟩);exact⟨rfl,Or.inr ⟨_,I.out,QcW _ _ _ E.out.size⟩,But.of (bel_box E.out _)⟩
  ·have I:=Hk (show Qho y ts=.ok (n,ts.tail) by rw[Qho,if_neg (by simp[O.out]),if_neg (by rw[N.out];exact hl),N.out]);go_wp2_with (go_at_call 153;refine(Qee _ _ _ Z.out (Or.inl (by rw[O.out];decide))).mono ?_;rintro e U ⟨rfl,h1,h2⟩);go_ret;exact⟨Or.inl ⟨_,_,_,I.out,rfl,rfl,h1⟩,(But.of E.out).then h2⟩
 ·obtain⟨b',rfl,t0,t1,tB,tl⟩:=K;have I:=Hk (show Qho y ts=.error (3,Qa6 ts) by rw[Qho,if_pos J];rfl);go_wp2;exact⟨rfl,Or.inr ⟨_,I.out,b',rfl,t0,t1,tB,tl⟩,But.of D⟩
def Qoe (xs:List By) (x:By):Int:=match xs.findIdx? (·==x) with |some i=>(i:Int)|none=>-1
def Qdl (w:World) (v:Value) (xs:List By):Prop:=∃b o c,v=.slice (some ⟨b,o,none⟩) xs.length c/\b<w.heap.size/\xs.length<=1000/\∀(j:Nat) (h:j<xs.length),w.cell? ⟨b,o+j,none⟩=some (.string (ba xs[j]))
theorem indexS_any (v:Value) (xs:List By) (x:By) (w:World) (h:Qdl w v xs):Calls Tryz.prog 71 #[v,.string (ba x)] w fun e w'=>e=.returned (.int .i64 (Qoe xs x))/\w'=w:=by
 obtain⟨b,o,c,rfl,hb,Z,D⟩:=h;have O:=Hk D;clear D;go_enter Tryz.func71,Tryz.ntmps71;go_wp2
 go_loopg [8] xs.length (fun g i wr=>∃k:Nat,k<=xs.length/\i=.int .i64 k/\xs.length-k<=g/\Aside (∀(j:Nat) (h:j<xs.length),j<k->(xs[j]==x)=false)/\wr=w)
 case atStart=>exact⟨0,Nat.zero_le _,rfl,by omega,fun j _ h=>absurd h (by omega),rfl⟩
 case round=>
  obtain⟨k,V,rfl,hg,H,rfl⟩:=hrel
  by_cases hlt:k<xs.length
  ·have E:(k:Int)<(xs.length:Int):=by omega
   have U:=O.out k hlt;generalize M:xs[k]=y at U;have J:=Hk M;clear M
   by_cases he:x=y
   ·have I:=Hk (show xs.findIdx? (·==x)=some k from by
     rw[List.findIdx?_eq_some_iff_getElem];exact⟨hlt,by rw[J.out,he];simp,fun j F=>by rw[H.out j (by omega) F];simp⟩)
    have hb':(x==y)=true:=by simp[he]
    clear he;go_wp2;go_ret;exact⟨QbB (by rw[Qoe,I.out]),rfl⟩
   ·have hb':(x==y)=false:=by simp[he]
    have K:=Hk (show∀(j:Nat) (h:j<xs.length),j<k+1->(xs[j]==x)=false from fun j h1 h2=>by
     by_cases h3:j<k
     ·exact H.out j h1 h3
     ·have:j=k:=by omega
      subst this;rw[J.out];simp;exact fun h=>he h.symm)
    clear he;go_wp2
    go_roundg (xs.length-(k+1))
    case measure=>omega
    case rel=>exact⟨k+1,by omega,by go_num,Nat.le_refl _,K.out,rfl⟩
  ·have E:¬((k:Int)<(xs.length:Int)):=by omega
   have I:=Hk (show xs.findIdx? (·==x)=none from by
    rw[List.findIdx?_eq_none_iff];intro y N;obtain⟨j,F,rfl⟩:=List.getElem_of_mem N;exact H.out j F (by omega))
   go_wp2;go_ret;exact⟨QbB (by rw[Qoe,I.out]),rfl⟩
theorem Qof (xs:List By) (x:By):(x∈xs/\∃i:Nat,xs.findIdx? (·==x)=some i)\/(x∉xs/\xs.findIdx? (·==x)=none):=by
 cases h:xs.findIdx? (·==x) with
 |some i=>
  rw[List.findIdx?_eq_some_iff_getElem] at h;obtain⟨y,he,-⟩:=h;refine Or.inl ⟨?_,i,rfl⟩;rw[<-beq_iff_eq.1 he];exact List.getElem_mem y
 |none=>
  rw[List.findIdx?_eq_none_iff] at h;exact Or.inr ⟨fun hx=>by have:=h x hx;simp at this,rfl⟩
theorem QmC (v:Value) (xs:List By) (x:By) (w:World) (h:Qdl w v xs):Calls Tryz.prog 37 #[v,.string (ba x)] w fun e w'=>e=.returned (.bool (decide (x∈xs)))/\w'=w:=by
 have HI:=Hk (indexS_any v xs x w h);clear h;unfold Qoe at HI;rcases Qof xs x with ⟨y,i,D⟩|⟨y,D⟩
 ·rw[decide_eq_true y];rw[D] at HI;go_enter Tryz.func37,Tryz.ntmps37;go_wp2_with (go_at_call 71;refine HI.out.mono ?_;rintro e w' ⟨rfl,rfl⟩);go_ret;exact⟨ret_bool (by simp),rfl⟩
 ·rw[decide_eq_false y];rw[D] at HI;go_enter Tryz.func37,Tryz.ntmps37;go_wp2_with (go_at_call 71;refine HI.out.mono ?_;rintro e w' ⟨rfl,rfl⟩);go_ret;exact⟨ret_bool (by simp),rfl⟩
theorem Qdu (v:Value) (xs:List By) (R:Nat) (ts:List Tk) (w:World) (h:RD w R ts) (I:Qdl w v xs) (M:[]∉xs):Calls Tryz.prog 155 #[.pointer (some ⟨R,0,none⟩),v] w fun e w'=>Rs (Qc1 xs ts) encS e w.heap.size w' R/\But R w w':=by
 obtain⟨b,o,cc,n,hc,F,O,hb,hR,V,k0,k1,k2⟩:=h.head;have U:=h.lt;have H:=Hk h;have y:=Hk (QmC v xs (Qar ts) w I);clear h F I
 by_cases he:Qar ts∈xs
 ·have E:=Hk (show Qc1 xs ts=.ok (Qar ts,ts.tail) by rw[Qc1,if_pos he]);have D:Qar ts≠[]:=fun e=>M (e▸he)
  rw[decide_eq_true he] at y;have N:=Hk (Qee R ts w H.out (Or.inr D));clear he D;go_enter Tryz.func155,Tryz.ntmps155;go_wp2_with (first|(go_at_call 37;refine y.out.mono ?_;rintro e w' ⟨rfl,rfl⟩)|(go_at_call 153;refine N.out.mono ?_;rintro e w' ⟨rfl,K,J⟩));go_ret;exact⟨Or.inl ⟨_,_,_,E.out,rfl,rfl,K⟩,J⟩
 ·have E:=Hk (show Qc1 xs ts=.error (3,Qa6 ts) by rw[Qc1,if_neg he];rfl);rw[decide_eq_false he] at y;clear he;go_enter Tryz.func155,Tryz.ntmps155;go_wp2_with (first|(go_at_call 37;refine y.out.mono ?_;rintro e w' ⟨rfl,rfl⟩)|(go_at_call 83;refine(Qbc _ _ _ _ H.out).mono ?_;rintro e Z ⟨rfl,rfl⟩));exact⟨rfl,Or.inr ⟨_,E.out,QcW _ _ _ (Nat.le_refl _)⟩,(But.refl _ _).box _⟩
end Go.Proofs.YtjlgejennghhlaaGreatDoor.Fw
