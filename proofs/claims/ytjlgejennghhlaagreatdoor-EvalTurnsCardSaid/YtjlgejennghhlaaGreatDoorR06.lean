import Derived.Lib.ItoaLen
import Derived.Deep.RegionHeld3
import Derived.Deep.AppendLies
import Derived.Lib.QuietBelow
import Derived.Lib.SliceRun
import Derived.Maps.AppendAt
import Derived.Test.YtjlgejennghhlaaGreatDoorR01
import Derived.Test.YtjlgejennghhlaaGreatDoorR04
import Derived.Test.YtjlgejennghhlaaGreatDoorR03
import Derived.Test.YtjlgejennghhlaaGreatDoorR05
set_option linter.unusedSimpArgs false
set_option linter.unusedVariables false
set_option linter.unusedSectionVars false
set_option maxRecDepth 1000000
set_option maxHeartbeats 16000000
namespace Go.Proofs.YtjlgejennghhlaaGreatDoor
open Go.RowKit
theorem Qpv (r:List (List UInt8)) (h:∀x∈r,x.length<=1000):Lib.lens r<=1000*r.length:=by
 induction r with
 |nil=>simp[Lib.lens]
 |cons x r ih=>
  have E:=h x (by simp);have D:=ih (fun y hy=>h y (by simp[hy]));simp only[Lib.lens,List.map_cons,List.sum_cons,List.length_cons] at D⊢;omega
theorem QlJ (xs:List (List UInt8)) (y:xs.length<=100) (h:∀x∈xs,x.length<=1000):(Lib.join xs [32]).length<=100100:=by
 cases xs with
 |nil=>simp[Lib.join_nil]
 |cons x r=>
  rw[Lib.join_length];have:=Qpv (x::r) h;simp at y this⊢;omega
theorem builder_new (w:World):Lib.IsBuilder 285 5 w.heap.size w.heap.size [] (w.alloc (.cells #[.pointer none,.slice none 0 0] 285)):=
 Or.inl ⟨Nat.le_refl _,.slice none 0 0,heap_alloc_new _ _,World.ownsRow_nil _ _ _ _,by simp[Value.ownBlock]⟩
theorem QaI {cs:List Cl} {rs:List (List Vl)} (h:Qae cs rs=true):Qaj cs=true/\rs.length<=60/\∀r∈rs,QaO r cs=true:=by
 simp[Qae] at h;exact⟨h.1,h.2.1,fun r hr=>h.2.2 r hr⟩
theorem QbQ:∀(cs D:List Cl),Qcz D cs=true->∀c∈cs,Qfh c.1.data.toList=true/\Qhy c.2=true
 |[],_,_,c,y=>absurd y (by simp)
 |d::r,D,h,c,y=>by
  simp[Qcz] at h;rcases List.mem_cons.1 y with rfl|y
  ·exact⟨h.1,h.2.1⟩
  ·exact QbQ r _ h.2.2.2 c y
theorem Tryz.infoStr:(Tryz.prog.info? 9).map (fun i=>(i.zero,i.size,i.bytes))=some (some (.string ⟨#[]⟩),1,16):=by kernel_rfl
def Qaq (cs:List Cl) (nm:List UInt8):Option Nat:=cs.findIdx? fun c=>c.1.data.toList==nm
def QaB (cs:List Cl) (nm:List UInt8):Int:=match Qaq cs nm with
 |some i=>(i:Int)
 |none=>-1
theorem Qap {cs:List Cl} {nm:List UInt8} {i:Nat} (h:Qaq cs nm=some i):i<cs.length:=by
 have:=List.findIdx?_eq_some_iff_getElem.1 h;exact this.1
theorem QiO {cs:List Cl} {nm:List UInt8} {k:Nat} (E:k<cs.length) (D:(cs[k].1.data.toList==nm)=true) (y:∀j (h:j<k),(cs[j].1.data.toList==nm)=false):Qaq cs nm=some k:=by
 refine List.findIdx?_eq_some_iff_getElem.2 ⟨E,D,fun j hj=>?_⟩;rw[y j hj];simp
theorem QlK {cs:List Cl} {nm:List UInt8} (y:∀j (h:j<cs.length),(cs[j].1.data.toList==nm)=false):Qaq cs nm=none:=by
 refine List.findIdx?_eq_none_iff.2 fun x hx=>?_
 obtain⟨j,D,rfl⟩:=List.mem_iff_getElem.1 hx;exact y j D
theorem Qkr (s nm:ByteArray) (k:Int) (h:Nat) (w:World) (D:w.cell? ⟨h,0,none⟩=some (.string nm)) (y:h<w.heap.size):
 Calls Tryz.prog 169 #[.agg #[.string s,.int .i64 k],.pointer (some ⟨h,0,none⟩)] w fun e w'=>e=.returned (.bool (s.data.toList==nm.data.toList))/\Below w.heap.size w w':=by
 go_enter Tryz.func169,Tryz.ntmps169;go_wp2;go_ret;exact⟨ret_bool (by rw[ByteArray.toList_eq,ByteArray.toList_eq]),Qaa _ _⟩
theorem QhF (b o n c:Nat) (cs:List Cl) (nm:ByteArray) (D:Nat) (w:World) (V:cs.length=n) (ad:n<=100) (O:b<w.heap.size) (hc:Qau w b o cs) (ha:w.cell? ⟨D,0,none⟩=some (.string nm)) (N:D<w.heap.size):
 Calls Tryz.prog 72 #[.slice (some ⟨b,o,none⟩) n c,.func (.func 169) #[] #[.pointer (some ⟨D,0,none⟩)]] w fun e w'=>e=.returned (.int .i64 (QaB cs nm.data.toList))/\Below w.heap.size w w':=by
 have U:Hid (cs.length=n):=V;clear V;go_enter Tryz.func72,Tryz.ntmps72;go_wp2;go_loopw [8] (fun i wr=>∃k:Nat,k<=n/\i=.int .i64 k/\(∀j (h:j<cs.length),j<k->(cs[j].1.data.toList==nm.data.toList)=false)/\Below w.heap.size w wr) (fun i _=>n-(intOf i).toNat)
 case atStart=>exact⟨0,Nat.zero_le _,rfl,fun j _ h=>absurd h (by omega),Below.refl _ _⟩
 case round=>
  obtain⟨k,hk,rfl,J,y⟩:=hrel;have K:=Hk J;clear J
  by_cases hlt:k<n
  ·have H:k<cs.length:=by have:=U.out;omega
   obtain⟨c1,c2⟩:=hc k H;have d1:=cK y O c1;have d2:=cK y O c2;clear c1 c2;have F:=Hk (Qkr cs[k].1 nm cs[k].2 D wr (cK y N ha) (by have:=y.size;omega))
   cases hp:(cs[k].1.data.toList==nm.data.toList)
   ·rw[hp] at F;have M:=Hk hp;clear hp;go_wp2_with (go_at_call 169;refine F.out.mono ?_;rintro e Z ⟨rfl,E⟩);go_roundw
    case rel=>
     refine⟨k+1,by omega,by go_num,fun j h hj=>?_,bel_then y E⟩;rcases Nat.lt_or_ge j k with I|I
     ·exact K.out j h I
     ·obtain rfl:j=k:=by omega
      exact M.out
    case measure=>simp[intOf];omega
   ·rw[hp] at F;have M:=Hk hp;clear hp;go_wp2_with (go_at_call 169;refine F.out.mono ?_;rintro e Z ⟨rfl,E⟩);go_ret;refine⟨QbB ?_,bel_then y E⟩;rw[QaB,QiO H M.out (fun j hj=>K.out j (by omega) hj)]
  ·go_wp2;go_ret;refine⟨QbB ?_,y⟩;rw[QaB,QlK (fun j hj=>K.out j hj (by have:=U.out;omega))]
theorem QaH (b o n c:Nat) (cs:List Cl) (nm:ByteArray) (w:World) (E:cs.length=n) (h:n<=100) (F:b<w.heap.size) (D:Qau w b o cs):
 Calls Tryz.prog 133 #[.slice (some ⟨b,o,none⟩) n c,.string nm] w fun e w'=>e=.returned (.int .i64 (QaB cs nm.data.toList))/\Below w.heap.size w w':=by
 have H:=mkF;have HI:=Hk (fun o'=>QhF b o n c cs nm w.heap.size (w.alloc (.cells #[.string nm] o')) E h (by simp;omega) (D.below (Qaa _ _) F) (by simp) (by simp));clear E D;go_enter Tryz.func133,Tryz.ntmps133;go_wp2_with (go_at_call 72;refine(HI.out _).mono ?_;rintro e I ⟨rfl,y⟩);go_ret;exact⟨rfl,bel_then (Qaa _ _) y⟩
theorem QlL (v:Value) (cs:List Cl) (nm:ByteArray) (w:World) (h:Qax w v cs) (y:1<=cs.length) (E:cs.length<=100):
 Calls Tryz.prog 133 #[v,.string nm] w fun e w'=>e=.returned (.int .i64 (QaB cs nm.data.toList))/\Below w.heap.size w w':=by
 obtain⟨a,c,rfl,I,H,h⟩:=h;rcases h with h|⟨b,o,rfl,F,D⟩
 ·rw[h] at y;simp at y
 ·exact QaH b o cs.length c cs nm w rfl E F D
abbrev Ag:=ByteArray×Vl
def Qb8 (cs:List Cl) (r:List Vl) (x:Ag):Vl:=if x.1.data.toList=[] then x.2 else match Qaq cs x.1.data.toList with
 |some i=>r[i]?.getD (0,0,⟨#[]⟩)
 |none=>(0,0,⟨#[]⟩)
abbrev aggV (x:Vl):Value:=.agg #[.int .i64 x.1,.int .i64 x.2.1,.string x.2.2]
theorem QiP (y D:Value) (x:Ag) (w:World) (h:x.1.data.toList=[]):
 Calls Tryz.prog 141 #[y,D,.agg #[.string x.1,.int .i64 x.2.1,.int .i64 x.2.2.1,.string x.2.2.2]] w fun e w'=>e=.returned (aggV x.2)/\Below w.heap.size w w':=by
 have he:x.1.toList.isEmpty=true:=by rw[ByteArray.toList_eq,h];rfl
 clear h;go_enter Tryz.func141,Tryz.ntmps141;go_wp2;refine bodyPost_ret (v:=aggV x.2) (by simp[results,Tryz.results141,go_sem]) rfl ⟨rfl,?_⟩;exact((Below.refl _ _).alloc (Nat.le_refl _) _).alloc (by simp) _
theorem QiQ (F H rc b o n c:Nat) (cs:List Cl) (r:List Vl) (x:Ag) (i:Nat) (w:World) (hx:x.1.data.toList≠[]) (U:Qaq cs x.1.data.toList=some i) (hi:i<r.length) (al:r.length<=100)
 (hn:cs.length=n) (V:n<=100) (hb:b<w.heap.size) (hc:Qau w b o cs) (I:F<w.heap.size) (Z:QaS w F H r):
 Calls Tryz.prog 141 #[.slice (some ⟨F,H,none⟩) r.length rc,.slice (some ⟨b,o,none⟩) n c,.agg #[.string x.1,.int .i64 x.2.1,.int .i64 x.2.2.1,.string x.2.2.2]] w fun e w'=>e=.returned (aggV r[i])/\Below w.heap.size w w':=by
 have he:x.1.toList.isEmpty=false:=by
  rw[ByteArray.toList_eq]
  cases h:x.1.data.toList with
  |nil=>exact absurd h hx
  |cons a q=>rfl
 obtain⟨W,M⟩:∃W,W=(w.alloc (.cells #[.string x.1,.int .i64 x.2.1,.int .i64 x.2.2.1,.string x.2.2.2] 48)).alloc (.cells #[.int .i64 0,.int .i64 0,.string ⟨#[]⟩] 46):=⟨_,rfl⟩;have E:Below w.heap.size w W:=by rw[M];exact((Below.refl _ _).alloc (Nat.le_refl _) _).alloc (by simp) _
 have K:=QaH b o n c cs x.1 W hn V (by have:=E.size;omega) (hc.below E hb);rw[show QaB cs x.1.data.toList=(i:Int) by rw[QaB,U]] at K;rw[M] at K E;have HP:=Hk K;have O:=Hk E;have N:=Hk (Z i hi);clear hx U hn hc Z K E M;go_enter Tryz.func141,Tryz.ntmps141;go_wp2_with (go_at_call 133;refine HP.out.mono ?_;rintro e J ⟨rfl,D⟩;have y:=bel_then O.out D;have d0:=cK y I N.out.1;have d1:=cK y I N.out.2.1;have d2:=cK y I N.out.2.2;obtain⟨ao,am⟩:=QaQ D;have ak:w.heap.size+1<J.heap.size:=by(have:=D.size;simp at this;omega));have y:=bel_then O.out D;have g0:J.cell? ⟨w.heap.size+1,0,none⟩=some (.int .i64 0):=(D.cell (p:=⟨w.heap.size+1,0,none⟩) (by simp)).trans (by simp);have g1:J.cell? ⟨w.heap.size+1,1,none⟩=some (.int .i64 0):=(D.cell (p:=⟨w.heap.size+1,1,none⟩) (by simp)).trans (by simp);have g2:J.cell? ⟨w.heap.size+1,2,none⟩=some (.string ⟨#[]⟩):=(D.cell (p:=⟨w.heap.size+1,2,none⟩) (by simp)).trans (by simp);refine bodyPost_ret (v:=aggV r[i]) (by simp[results,Tryz.results141,go_sem,g0,g1,g2]) rfl ⟨rfl,?_⟩;exact((y.setCell (by show w.heap.size<=w.heap.size+1;omega) _).setCell (by show w.heap.size<=w.heap.size+1;omega) _).setCell (by show w.heap.size<=w.heap.size+1;omega) _
theorem Qfw (F D:Value) (cs:List Cl) (r:List Vl) (x:Ag) (w:World) (hc:Qax w D cs) (hr:QcA w F r) (U:cs.length<=100) (M:r.length=cs.length) (K:x.1.data.toList=[]\/∃i,Qaq cs x.1.data.toList=some i):
 Calls Tryz.prog 141 #[F,D,.agg #[.string x.1,.int .i64 x.2.1,.int .i64 x.2.2.1,.string x.2.2.2]] w fun e w'=>e=.returned (aggV (Qb8 cs r x))/\Below w.heap.size w w':=by
 by_cases hx:x.1.data.toList=[]
 ·rw[Qb8,if_pos hx];exact QiP F D x w hx
 ·obtain⟨i,I⟩:=K.resolve_left hx;have y:=Qap I;obtain⟨a,c,rfl,-,-,h⟩:=hc;obtain⟨a',c',rfl,-,E⟩:=hr;rcases h with h|⟨b,o,rfl,O,N⟩
  ·rw[h] at y;simp at y
  rcases E with E|⟨V,Z,rfl,J,H⟩
  ·rw[E] at M;simp at M;omega
  have:=QiQ V Z c' b o cs.length c cs r x i w hx I (by omega) (by omega) rfl U O N J H;have e:Qb8 cs r x=r[i]'(by omega):=by
   unfold Qb8;rw[if_neg hx,I]
   show r[i]?.getD _=_
   rw[List.getElem?_eq_getElem (show i<r.length by omega)];rfl
  rw[e];exact this
def QlM (op:List UInt8) (less more:Bool):Bool:=
 if op=[61] then !less&& !more else if op=[60,62] then less||more else if op=[60] then less else if op=[60,61] then !more else if op=[62] then more else !less
def Qb0 (a b:Vl):Bool:=Qht a.1 a.2.1 a.2.2.data.toList b.1 b.2.1 b.2.2.data.toList
theorem QlN (op:ByteArray) (a b:Vl) (w:World):
 Calls Tryz.prog 140 #[.string op,aggV a,aggV b] w fun e w'=>e=.returned (.bool (QlM op.data.toList (Qb0 a b) (Qb0 b a)))/\Below w.heap.size w w':=by
 obtain⟨m1,y⟩:∃m,Qb0 a b=m:=⟨_,rfl⟩;obtain⟨m2,D⟩:∃m,Qb0 b a=m:=⟨_,rfl⟩;rw[y,D];unfold Qb0 at y D;have ab:=Hk y;have M:=Hk D;clear y D;obtain⟨W,h⟩:∃W,W=(w.alloc (.cells #[.int .i64 a.1,.int .i64 a.2.1,.string a.2.2] 46)).alloc (.cells #[.int .i64 b.1,.int .i64 b.2.1,.string b.2.2] 46):=⟨_,rfl⟩;have F:Below w.heap.size w W:=by rw[h];exact((Below.refl _ _).alloc (Nat.le_refl _) _).alloc (by simp) _
 have Z:W.cell? ⟨w.heap.size,0,none⟩=some (.int .i64 a.1):=by rw[h];simp
 have a1:W.cell? ⟨w.heap.size,1,none⟩=some (.int .i64 a.2.1):=by rw[h];simp
 have a2:W.cell? ⟨w.heap.size,2,none⟩=some (.string a.2.2):=by rw[h];simp
 have N:W.cell? ⟨w.heap.size+1,0,none⟩=some (.int .i64 b.1):=by rw[h];simp
 have K:W.cell? ⟨w.heap.size+1,1,none⟩=some (.int .i64 b.2.1):=by rw[h];simp
 have V:W.cell? ⟨w.heap.size+1,2,none⟩=some (.string b.2.2):=by rw[h];simp
 have A0:=cell_regrown Z;have A1:=cell_regrown a1;have A2:=cell_regrown a2;have B0:=cell_regrown N;have B1:=cell_regrown K;have B2:=cell_regrown V;have I:∀x1 x2 x3 y1 y2 y3 d os,_:=fun x1 x2 x3 y1 y2 y3 d os=>Calls.regrown_of (QnJ x1 x2 x3 y1 y2 y3 (Sort.grow (redrawn W d) os))
 have O:=Hk F;clear F Z a1 a2 N K V;go_enter Tryz.func140,Tryz.ntmps140;go_wp2;rw[<-h];clear h;refine wp_region_quiet_below (by kernel_rfl) (by kernel_rfl) ?_
 repeat(any_goals(first|go_big_quiet_step (first|exact I _ _ _ _ _ _ _ _)|quiet_step (first|exact I _ _ _ _ _ _ _ _)))
 refine wpQuiet_nil ?_;intro _ J;obtain⟨⟨dq,E⟩,H⟩:=J;subst H;have U:=Hk (bel_then O.out (below_regrown W dq E));clear A0 A1 A2 B0 B1 B2 I O;rw[ab.out,M.out];generalize Sort.grow (redrawn W dq) E=W5 at*
 cases m1<;>cases m2
 all_goals
  go_wp2
  all_goals go_ret
  all_goals refine⟨ret_bool ?_,U.out⟩
  all_goals simp_all [QlM,ByteArray.toList_eq]
structure Jb where
 at_:Int
 code:Int
 outs:Value
 ins:Value
 cols:Value
 op:ByteArray
 left:Ag
 right:Ag
 retry:Int
def Jb.cells (j:Jb):Array Value:=#[.int .i64 j.at_,.int .i64 j.code,j.outs,j.ins,j.cols,.string j.op,.string j.left.1,.int .i64 j.left.2.1,.int .i64 j.left.2.2.1,.string j.left.2.2.2,.string j.right.1,.int .i64 j.right.2.1,.int .i64 j.right.2.2.1,.string j.right.2.2.2,.int .i64 j.retry]
abbrev aggA (x:Ag):Value:=.agg #[.string x.1,.int .i64 x.2.1,.int .i64 x.2.2.1,.string x.2.2.2]
def Qbn (cs:List Cl) (j:Jb) (r:List Vl):Bool:=QlM j.op.data.toList (Qb0 (Qb8 cs r j.left) (Qb8 cs r j.right)) (Qb0 (Qb8 cs r j.right) (Qb8 cs r j.left))
def QdW (cs:List Cl) (x:Ag):Prop:=x.1.data.toList=[]\/∃i,Qaq cs x.1.data.toList=some i
def QaC (w:World) (jb:Nat) (j:Jb):Prop:=∀k v,j.cells[k]? =some v->w.cell? ⟨jb,k,none⟩=some v
theorem QaC.below {w w':World} {B y:Nat} {j:Jb} (h:QaC w y j) (E:Below B w w') (D:y<B):QaC w' y j:=fun k v hk=>(E.cell (p:=⟨y,k,none⟩) D).trans (h k v hk)
theorem QaC.lt {w:World} {y:Nat} {j:Jb} (h:QaC w y j):y<w.heap.size:=World.block_lt_of_cell? w _ (h 0 _ rfl)
theorem QiR (I J:Value) (cs:List Cl) (r:List Vl) (j:Jb) (h N:Nat) (w:World) (y:QaC w h j) (D:w.cell? ⟨N,0,none⟩=some J) (hc:Qax w J cs) (U:QcA w I r) (h6:cs.length<=100) (O:r.length=cs.length) (E:QdW cs j.left) (F:QdW cs j.right):
 Calls Tryz.prog 139 #[I,.pointer (some ⟨h,0,none⟩),.pointer (some ⟨N,0,none⟩)] w fun e w'=>e=.returned (.bool (Qbn cs j r))/\Below w.heap.size w w':=by
 have e5:=cell_regrown (show w.cell? ⟨h,5,none⟩=some (.string j.op) from y 5 _ rfl);have e6:=cell_regrown (show w.cell? ⟨h,6,none⟩=some (.string j.left.1) from y 6 _ rfl);have e7:=cell_regrown (show w.cell? ⟨h,7,none⟩=some (.int .i64 j.left.2.1) from y 7 _ rfl);have e8:=cell_regrown (show w.cell? ⟨h,8,none⟩=some (.int .i64 j.left.2.2.1) from y 8 _ rfl);have e9:=cell_regrown (show w.cell? ⟨h,9,none⟩=some (.string j.left.2.2.2) from y 9 _ rfl);have ag:=cell_regrown (show w.cell? ⟨h,10,none⟩=some (.string j.right.1) from y 10 _ rfl);have ad:=cell_regrown (show w.cell? ⟨h,11,none⟩=some (.int .i64 j.right.2.1) from y 11 _ rfl);have ah:=cell_regrown (show w.cell? ⟨h,12,none⟩=some (.int .i64 j.right.2.2.1) from y 12 _ rfl);have af:=cell_regrown (show w.cell? ⟨h,13,none⟩=some (.string j.right.2.2.2) from y 13 _ rfl);have ea:=cell_regrown D;have V:∀(x:Ag) (Z:x=j.left\/x=j.right) d os,_:=fun x Z d os=>Calls.regrown_of (Qfw I J cs r x (Sort.grow (redrawn w d) os) (hc.below (below_regrown _ _ _)) (U.below (below_regrown _ _ _)) h6 O (by rcases Z with rfl|rfl;exact E;exact F))
 have M:∀(op:ByteArray) (a b:Vl) d os,_:=fun op a b d os=>Calls.regrown_of (QlN op a b (Sort.grow (redrawn w d) os))
 obtain⟨a,c,rfl,-⟩:=hc;obtain⟨a',c',rfl,-⟩:=U;unfold Qbn;clear y D E F O h6;go_enter Tryz.func139,Tryz.ntmps139;go_wp2;refine wp_region_quiet_below (by kernel_rfl) (by kernel_rfl) ?_
 repeat(any_goals(first|go_big_quiet_step (first|(go_at_call 141;exact V _ (by first|exact Or.inl rfl|exact Or.inr rfl) _ _)|(go_at_call 140;exact M _ _ _ _ _))|quiet_step (first|(go_at_call 141;exact V _ (by first|exact Or.inl rfl|exact Or.inr rfl) _ _)|(go_at_call 140;exact M _ _ _ _ _))))
 refine wpQuiet_nil ?_;intro _ K;obtain⟨⟨dq,ae⟩,H⟩:=K;subst H;go_wp2;go_ret;exact⟨rfl,below_regrown _ _ _⟩
def Qab (w:World) (B:Nat) (us:List Value) (rs:List (List Vl)):Prop:=
 us.length=rs.length/\∀(j:Nat) (h:j<us.length) (h':j<rs.length),w.ownsRow B 46 3 us[j] rs[j].length (Qag rs[j])/\∀x∈rs[j],x.2.2.size<=maxLen
theorem Qab.below {w w':World} {B:Nat} {us:List Value} {rs:List (List Vl)} (h:Qab w B us rs) (y:Below w.heap.size w w'):Qab w' B us rs:=
 ⟨h.1,fun j hj hj'=>⟨owns_below (h.2 j hj hj').1 y,(h.2 j hj hj').2⟩⟩
theorem Qab.mono {w:World} {B B':Nat} {us:List Value} {rs:List (List Vl)} (h:Qab w B us rs) (y:B'<=B):Qab w B' us rs:=
 ⟨h.1,fun j hj hj'=>⟨own_mono y (h.2 j hj hj').1,(h.2 j hj hj').2⟩⟩
theorem Qab.grow {w w':World} {B B':Nat} {us:List Value} {rs:List (List Vl)} {v:Value} {n:Nat} {xs:List Value} (h:Qab w B us rs) (y:w.ownsRow B' 84 1 v n xs) (D:w.grownBy w' v.ownBlock):Qab w' B us rs:=
 ⟨h.1,fun j hj hj'=>⟨(h.2 j hj hj').1.kept D (Qb4 (by decide) (h.2 j hj hj').1 y),(h.2 j hj hj').2⟩⟩
theorem Qab.snoc {w:World} {B:Nat} {us:List Value} {rs:List (List Vl)} {u:Value} {r:List Vl} (h:Qab w B us rs) (H:w.ownsRow B 46 3 u r.length (Qag r)) (F:∀x∈r,x.2.2.size<=maxLen):Qab w B (us++[u]) (rs++[r]):=by
 refine⟨by simp[h.1],fun j hj hj'=>?_⟩
 by_cases y:j<us.length
 ·have hlt':j<rs.length:=by rw[<-h.1];exact y
  simp only[List.getElem_append_left y,List.getElem_append_left hlt'];exact h.2 j y hlt'
 ·have D:j=us.length:=by rw[List.length_append] at hj;simp at hj;omega
  subst D;have E:(us++[u])[us.length]=u:=by simp
  have I:(rs++[r])[us.length]'(by rw[h.1];simp)=r:=by simp[h.1]
  rw[E];simp only[I];exact⟨H,F⟩
theorem Qab.nil (w:World) (B:Nat):Qab w B [] []:=⟨rfl,fun j hj=>absurd hj (by simp)⟩
theorem QbX {w:World} {B B':Nat} {v:Value} {us:List Value} {rs:List (List Vl)} (h5:w.ownsRow B 84 1 v rs.length us) (y:Qab w B' us rs):QaG w v rs:=by
 have F:=h5;obtain⟨I,⟨rfl,D⟩|⟨g,E,H,rfl,M,K,D,J,_,_⟩⟩:=h5
 ·exact⟨none,0,by rw[D],Or.inl (List.length_eq_zero_iff.1 D)⟩
 ·refine⟨some ⟨g,0,none⟩,E,rfl,Or.inr ⟨g,0,rfl,(F.lt g rfl).2,fun j hj=>?_⟩⟩;have h:j<us.length:=by rw[y.1];exact hj
  refine⟨us[j],?_,QbE (y.2 j h hj).1 (y.2 j h hj).2⟩;have e:=F.cellAt j (by omega);rw[show 0+j=j by omega,e,List.getElem?_eq_getElem h]
theorem QbY (h:List Vl):(Qag h).length=h.length*3:=by
 induction h with
 |nil=>rfl
 |cons c r ih=>simp only[Qag,List.flatMap_cons,List.length_append,List.length_cons,List.length_nil] at ih⊢;omega
theorem Qcn (y:List Vl):∀u∈Qag y,u.oneCell'=true:=by
 intro u h;rw[Qag,List.mem_flatMap] at h;obtain⟨x,-,h⟩:=h;simp at h;rcases h with rfl|rfl|rfl<;>rfl
theorem QdX {w:World} {b o:Nat} {D:List Vl} (h:QaS w b o D) (j:Nat) (u:Value) (y:(Qag D)[j]? =some u):w.cell? ((⟨b,o,none⟩:Addr).add j)=some u:=by
 have H:j<(Qag D).length:=(List.getElem?_eq_some_iff.1 y).1;rw[QbY] at H;have F:=QcP D (j/3) (by omega);have E:=h (j/3) (by omega);rw[Addr.add_mid];rcases(show j=j/3*3\/j=j/3*3+1\/j=j/3*3+2 by omega) with e|e|e
 ·rw[e] at y⊢;rw[F.1] at y;injection y with y;subst y;have:(j/3*3)/3*3=j/3*3:=by omega
  simpa [this] using E.1
 ·rw[e] at y⊢;rw[F.2.1] at y;injection y with y;subst y;have:=E.2.1;rw[Nat.add_assoc] at this;exact this
 ·rw[e] at y⊢;rw[F.2.2] at y;injection y with y;subst y;have:=E.2.2;rw[Nat.add_assoc] at this;exact this
theorem Qfx (w:World) (e:TypeId) (z B:Nat) (h:B<=w.heap.size):(w.alloc (.cells #[] e)).ownsRow B e z (.slice (some ⟨w.heap.size,0,none⟩) 0 0) 0 []:=
 ⟨by simp,Or.inr ⟨w.heap.size,0,#[],rfl,h,by show(w.heap.push _)[w.heap.size]? =_;simp,Nat.le_refl _,by unfold maxLen;omega,by simp,by simp⟩⟩
theorem QiS (b o n c:Nat) (D:List Vl) (w:World) (M:D.length=n) (ae:n<=100) (U:b<w.heap.size) (N:QaS w b o D):
 Calls Tryz.prog 103 #[.slice (some ⟨b,o,none⟩) n c] w fun e w'=>∃v,e=.returned v/\w'.ownsRow w.heap.size 46 3 v n (Qag D)/\Below w.heap.size w w':=by
 obtain⟨V,hi,I,J,K⟩:=info_parts Tryz.infoVal;have HN:=Hk M;have HV:=Hk N;clear M N;have ad:∀(w:World) (a:Option Addr) (n c E F:Nat),(binOp .eql 84 (.slice a n c) (.slice none E F)).run Tryz.prog w=.ok (.bool a.isNone) w:=fun w a n c E F=>Lib.run_eql_slice_nil w _ _ a n c E F Tryz.underlying84
 go_enter Tryz.func103,Tryz.ntmps103;go_wp2_with (at_builtin;refine wpList_append_own _ rfl _ _ 84 rfl w.heap.size 46 V (.agg #[.int .i64 0,.int .i64 0,.string ⟨#[]⟩]) 3 32 Tryz.underlying84 hi I J K rfl (by decide) _ _ _ rfl (Qfx w _ _ _ (Nat.le_refl _)) ⟨b,o,none⟩ n c (Qag D) rfl ?c0 (QdX (HV.out.below (Qaa _ _) U)) (Qcn D) ?c3 ?c4 ?c5 ?_)
 case c0=>rw[QbY,HN.out]
 case c3=>unfold maxLen;omega
 case c4=>omega
 case c5=>simp
 intro v' O h y _;have H:Below w.heap.size w O:=(Qaa w _).grown y (by simp) (fun q hq=>by simp[Value.ownBlock] at hq;omega);have Z:=Hk h;clear h y;go_wp2;go_ret;exact⟨_,rfl,Z.out,H⟩
theorem Qco (y:List Cl):∀u∈Qal y,u.oneCell'=true:=by
 intro u h;rw[Qal,List.mem_flatMap] at h;obtain⟨x,-,h⟩:=h;simp at h;rcases h with rfl|rfl<;>rfl
theorem QdY {w:World} {b o:Nat} {D:List Cl} (h:Qau w b o D) (j:Nat) (u:Value) (y:(Qal D)[j]? =some u):w.cell? ((⟨b,o,none⟩:Addr).add j)=some u:=by
 have F:j<(Qal D).length:=(List.getElem?_eq_some_iff.1 y).1;rw[QeJ] at F;have H:=QdJ D (j/2) (by omega);have E:=h (j/2) (by omega);rw[Addr.add_mid];rcases(show j=j/2*2\/j=j/2*2+1 by omega) with e|e
 ·rw[e] at y⊢;rw[H.1] at y;injection y with y;subst y;have:(j/2*2)/2*2=j/2*2:=by omega
  simpa [this] using E.1
 ·rw[e] at y⊢;rw[H.2] at y;injection y with y;subst y;have:=E.2;rw[Nat.add_assoc] at this;exact this
theorem QdK (b o n c:Nat) (D:List Cl) (w:World) (M:D.length=n) (ae:n<=100) (U:b<w.heap.size) (N:Qau w b o D):
 Calls Tryz.prog 58 #[.slice (some ⟨b,o,none⟩) n c] w fun e w'=>∃v,e=.returned v/\w'.ownsRow w.heap.size 64 2 v n (Qal D)/\Below w.heap.size w w':=by
 obtain⟨V,hi,I,J,K⟩:=info_parts Tryz.infoCol;have HN:=Hk M;have HV:=Hk N;clear M N;have ad:∀(w:World) (a:Option Addr) (n c E F:Nat),(binOp .eql 51 (.slice a n c) (.slice none E F)).run Tryz.prog w=.ok (.bool a.isNone) w:=fun w a n c E F=>Lib.run_eql_slice_nil w _ _ a n c E F Tryz.underlying51
 go_enter Tryz.func58,Tryz.ntmps58;go_wp2_with (at_builtin;refine wpList_append_own _ rfl _ _ 51 rfl w.heap.size 64 V (.agg #[.string ⟨#[]⟩,.int .i64 0]) 2 24 Tryz.underlying51 hi I J K rfl (by decide) _ _ _ rfl (Qfx w _ _ _ (Nat.le_refl _)) ⟨b,o,none⟩ n c (Qal D) rfl ?c0 (QdY (HV.out.below (Qaa _ _) U)) (Qco D) ?c3 ?c4 ?c5 ?_)
 case c0=>rw[QeJ,HN.out]
 case c3=>unfold maxLen;omega
 case c4=>omega
 case c5=>simp
 intro v' O h y _;have H:Below w.heap.size w O:=(Qaa w _).grown y (by simp) (fun q hq=>by simp[Value.ownBlock] at hq;omega);have Z:=Hk h;clear h y;go_wp2;go_ret;exact⟨_,rfl,Z.out,H⟩
theorem QhG (v:Value) (cs:List Cl) (w:World) (h:Qax w v cs) (y:1<=cs.length) (E:cs.length<=100):
 Calls Tryz.prog 58 #[v] w fun e w'=>∃v',e=.returned v'/\w'.ownsRow w.heap.size 64 2 v' cs.length (Qal cs)/\Below w.heap.size w w':=by
 obtain⟨a,c,rfl,I,H,h⟩:=h;rcases h with h|⟨b,o,rfl,F,D⟩
 ·rw[h] at y;simp at y
 ·exact QdK b o cs.length c cs w rfl E F D
theorem Qdd (v:Value) (y:List Vl) (w:World) (h:QcA w v y) (D:1<=y.length) (F:y.length<=100):
 Calls Tryz.prog 103 #[v] w fun e w'=>∃v',e=.returned v'/\w'.ownsRow w.heap.size 46 3 v' y.length (Qag y)/\Below w.heap.size w w':=by
 obtain⟨a,c,rfl,I,h⟩:=h;rcases h with h|⟨b,o,rfl,H,E⟩
 ·rw[h] at D;simp at D
 ·exact QiS b o y.length c y w rfl F H E
theorem own_slice {w:World} {B:Nat} {e:TypeId} {z:Nat} {v:Value} {n:Nat} {xs:List Value} (h:w.ownsRow B e z v n xs):∃a c,v=.slice a n c:=by
 obtain⟨-,⟨rfl,y⟩|⟨g,E,D,rfl,-⟩⟩:=h
 ·exact⟨none,0,by rw[y]⟩
 ·exact⟨_,_,rfl⟩
theorem news1 (w:World) (v:Value) (t:TypeId) (H:Nat) (y:w.heap.size=H):∀j u,[v][j]? =some u->(w.alloc (.cells #[v] t)).cell? ((⟨H,0,none⟩:Addr).add j)=some u:=by
 intro j u h
 match j,h with
 |0,h=>simp at h;subst h;subst y;simp[Addr.add]
theorem Qc4 (a:Option Addr) (n c:Nat):∀u∈[Value.slice a n c],u.oneCell'=true:=by intro u h;simp at h;subst h;rfl
theorem QgS {w:World} {v:Value} {rs:List (List Vl)} (h:QaG w v rs) (y:0<rs.length):∃b o c,v=.slice (some ⟨b,o,none⟩) rs.length c/\b<w.heap.size/\QdD w b o rs:=by
 obtain⟨a,c,rfl,h⟩:=h;rcases h with h|⟨b,o,rfl,E,D⟩
 ·rw[h] at y;simp at y
 ·exact⟨b,o,c,rfl,E,D⟩
theorem row_slice {w:World} {u:Value} {r:List Vl} (h:QcA w u r):∃a c,u=.slice a r.length c:=by
 obtain⟨a,c,rfl,-⟩:=h;exact⟨a,c,rfl⟩
theorem Qa2 (v:Value) (rs:List (List Vl)) (m:Nat) (w:World) (hr:QaG w v rs) (hl:∀r∈rs,r.length=m) (h1:1<=m) (h6:m<=100) (aG:rs.length<=100):
 Calls Tryz.prog 137 #[v] w fun e w'=>∃v' us,e=.returned v'/\w'.ownsRow w.heap.size 84 1 v' rs.length us/\Qab w' w.heap.size us rs/\Below w.heap.size w w':=by
 obtain⟨i0,hi,am,ao,aq⟩:=info_parts Tryz.infoRow;have HR:=Hk hr;have HL:=Hk hl;clear hl;obtain⟨va,aJ,rfl,-⟩:=hr;go_enter Tryz.func137,Tryz.ntmps137;go_wp2;go_loopw [3,8] (fun l i wr=>∃(k:Nat) (us:List Value),k<=rs.length/\i=.int .i64 k/\wr.ownsRow w.heap.size 84 1 l k us/\Qab wr w.heap.size us (rs.take k)/\Below w.heap.size w wr) (fun _ i _=>rs.length-(intOf i).toNat)
 case atStart=>exact⟨0,[],Nat.zero_le _,rfl,World.ownsRow_nil _ _ _ _,Qab.nil _ _,Below.refl _ _⟩
 case round=>
  obtain⟨k,us,hk,rfl,D,h,E⟩:=hrel;obtain⟨la,lc,rfl⟩:=own_slice D;have H:=Hk (Ai D h);have HX:=Hk E;have aH:=E.size
  by_cases hlt:k<rs.length
  ·obtain⟨b,o,c,Z,ak,ad⟩:=QgS HR.out (by omega);simp only[Value.slice.injEq,true_and] at Z;obtain⟨rfl,rfl⟩:=Z;obtain⟨u,hu,K⟩:=ad k hlt;have cu:=cK E ak hu;have ab:=K.below E;obtain⟨ua,uc,rfl⟩:=row_slice K;have ag:=HL.out _ (List.getElem_mem hlt);have aa:=Qdd _ _ wr ab (by omega) (by omega);have af:∀x∈rs[k],x.2.2.size<=maxLen:=by obtain⟨_,_,_,hs,_⟩:=K;exact hs
   have HC:=Hk aa;have HS:=Hk (Ai af ag);clear aa ad hu K ab E D h af ag;generalize ac:rs[k]=rk at*;have av:=Hk ac;clear ac;go_wp2_with (first|(go_at_call 103;refine HC.out.mono ?_;rintro e w1 ⟨v1,rfl,U,F⟩;obtain⟨M,I,rfl⟩:=own_slice U)|(at_builtin;refine wpList_append_own _ rfl _ _ 52 rfl w.heap.size 84 i0 (.slice none 0 0) 1 24 Tryz.underlying52 hi am ao aq rfl (by decide) _ _ _ rfl ((owns_below H.out.1 F).alloc _) ⟨w1.heap.size,0,none⟩ 1 1 [.slice M rk.length I] rfl rfl (news1 _ _ _ _ rfl) (Qc4 _ _ _) ?c3 ?c4 ?c5 ?_))
   case c3=>unfold maxLen;omega
   case c4=>omega
   case c5=>have:=F.size;simp;omega
   intro v' w5 J y _;have aI:=F.size;have O:Below w.heap.size w w5:=((bel_then HX.out F).alloc (by omega) _).grown y (by simp;omega) (fun q hq=>(H.out.1.lt q hq).1);have N:=((owns_below H.out.1 F).alloc (.cells #[.slice M rk.length I] 84));have ah:=((H.out.2.below F).below (Qaa w1 (.cells #[.slice M rk.length I] 84))).grow N y;have ae:=(U.alloc (.cells #[.slice M rk.length I] 84)).kept y (Qb4 (by decide) (U.alloc _) N);have V:=ah.snoc (own_mono (by omega) ae) HS.out.1;rw[show rs.take k++[rk]=rs.take (k+1) by rw[List.take_succ_eq_append_getElem hlt,av.out]] at V;have HF:=Hk (Ai J (Ai V O));clear J y V O ah ae N;go_wp2;go_roundw
   case rel=>exact⟨k+1,_,by omega,by go_num,HF.out.1,HF.out.2.1,HF.out.2.2⟩
   case measure=>simp[intOf];omega
  ·have ap:k=rs.length:=by omega
   subst ap;rw[List.take_of_length_le (Nat.le_refl _)] at h;clear H;have H:=Hk (Ai D h);clear D h E;go_wp2;go_ret;exact⟨_,us,rfl,H.out.1,H.out.2,HX.out⟩
theorem QlO {w:World} {B I:Nat} {v:Value} {us:List Value} {rs:List (List Vl)} (y:w.ownsRow I 84 1 v rs.length us) (D:Qab w B us rs) (k:Nat) (h:k<rs.length):
 ∃g c u,v=.slice (some ⟨g,0,none⟩) rs.length c/\g<w.heap.size/\w.cell? ⟨g,k,none⟩=some u/\w.ownsRow B 46 3 u rs[k].length (Qag rs[k])/\∀x∈rs[k],x.2.2.size<=maxLen:=by
 have H:=y;obtain⟨-,⟨rfl,J⟩|⟨g,E,K,rfl,O,N,J,M,_,_⟩⟩:=y
 ·omega
 ·have F:k<us.length:=by rw[D.1];exact h
  refine⟨g,E,us[k],rfl,(H.lt g rfl).2,?_,D.2 k F h⟩;have e:=H.cellAt k (by omega);rw[e,List.getElem?_eq_getElem F]
def Apart (u v:Value):Prop:=∀b,u.ownBlock=some b->v.ownBlock=some b->False
theorem Qgr {w w':World} {B:Nat} {v u:Value} {e:TypeId} {z k:Nat} {y:List Value} (F:w.ownsRow B e z u k y) (E:Apart u v) (D:w.grownBy w' v.ownBlock):w'.ownsRow B e z u k y:=by
 refine F.kept D ?_
 cases h:u.ownBlock with
 |none=>exact Or.inl rfl
 |some b=>exact Or.inr (fun e=>E b h e.symm)
theorem Qgs {w:World} {B:Nat} {v D u:Value} {e:TypeId} {z k:Nat} {I:List Value} (M:w.ownsRow B e z u k I) (J:Apart u v) {H:Nat} (K:w.heap.size=H) (F:D.ownBlock=v.ownBlock\/D.ownBlock=some H):Apart u D:=by
 subst K;intro b E y;rcases F with h|h
 ·exact J b E (by rw[<-h];exact y)
 ·have:=(M.lt b E).2;rw[h] at y;injection y with y;omega
theorem Apart.symm {u v:Value} (h:Apart u v):Apart v u:=fun b h1 h2=>h b h2 h1
theorem Qfy {α:Type} (p:α->Bool) (l:List α) (k:Nat) (h:k<l.length):(l.take (k+1)).filter p=(l.take k).filter p++(if p l[k] then[l[k]] else[]):=by
 rw[List.take_succ_eq_append_getElem h,List.filter_append];simp only[List.filter_cons,List.filter_nil]
theorem Qks (v vc:Value) (cs:List Cl) (rs:List (List Vl)) (us:List Value) (j:Jb) (jb ab B:Nat) (w:World) (hv:w.ownsRow B 84 1 v rs.length us) (hH:Qab w B us rs) (hB:B<=w.heap.size)
 (hj:QaC w jb j) (ah:w.cell? ⟨ab,0,none⟩=some vc) (aV:ab<w.heap.size) (hc:Qax w vc cs) (h6:cs.length<=100) (hl:∀r∈rs,r.length=cs.length) (bk:rs.length<=100) (aO:QdW cs j.left) (aL:QdW cs j.right):
 Calls Tryz.prog 138 #[v,.func (.func 139) #[] #[.pointer (some ⟨jb,0,none⟩),.pointer (some ⟨ab,0,none⟩)]] w fun e w'=>∃v1 v2 J I,e=.returned (.tuple #[v1,v2])/\w'.ownsRow w.heap.size 84 1 v1 (rs.filter (Qbn cs j)).length J/\Qab w' B J (rs.filter (Qbn cs j))/\w'.ownsRow w.heap.size 84 1 v2 (rs.filter (fun r=> !Qbn cs j r)).length I/\Qab w' B I (rs.filter (fun r=> !Qbn cs j r))/\Below w.heap.size w w':=by
 obtain⟨i0,hi,aK,aQ,aN⟩:=info_parts Tryz.infoRow;have HV:=Hk (Ai hv (Ai hH hl));have HJ:=Hk (Ai hj (Ai ah hc));have aM:=Hk (Ai aO aL);have a8:=hj.lt;obtain⟨va,bm,rfl⟩:=own_slice hv;clear hv hH hl hj ah hc aO aL;go_enter Tryz.func138,Tryz.ntmps138;go_wp2;go_loopw [4,5,10] (fun l1 l2 i wr=>∃(k:Nat) (J I:List Value),k<=rs.length/\i=.int .i64 k/\wr.ownsRow w.heap.size 84 1 l1 ((rs.take k).filter (Qbn cs j)).length J/\Qab wr B J ((rs.take k).filter (Qbn cs j))/\wr.ownsRow w.heap.size 84 1 l2 ((rs.take k).filter (fun r=> !Qbn cs j r)).length I/\Qab wr B I ((rs.take k).filter (fun r=> !Qbn cs j r))/\Apart l1 l2/\Below w.heap.size w wr) (fun _ _ i _=>rs.length-(intOf i).toNat)
 case atStart=>exact⟨0,[],[],Nat.zero_le _,rfl,World.ownsRow_nil _ _ _ _,Qab.nil _ _,World.ownsRow_nil _ _ _ _,Qab.nil _ _,fun b h=>by simp[Value.ownBlock] at h,Below.refl _ _⟩
 case round=>
  obtain⟨k,J,I,hk,rfl,Z,ae,V,ag,az,E⟩:=hrel;obtain⟨bj,bp,rfl⟩:=own_slice Z;obtain⟨bq,bo,rfl⟩:=own_slice V;have bn:=E.size
  by_cases hlt:k<rs.length
  ·obtain⟨hv,hH,hl⟩:=HV.out;obtain⟨g,c,u,aJ,a5,aP,aB,aF⟩:=QlO hv hH k hlt;simp only[Value.slice.injEq,true_and] at aJ;obtain⟨rfl,rfl⟩:=aJ;have cu:=cK E a5 aP;have huo':=owns_below aB E;obtain⟨hj,ah,hc⟩:=HJ.out;have hT:=QiR u vc cs rs[k] j jb ab wr (hj.below E a8) (cK E aV ah) (hc.below E) (QbE huo' aF) h6 (hl _ (List.getElem_mem hlt)) aM.out.1 aM.out.2;have ac:=Qfy (Qbn cs j) rs k hlt;have aa:=Qfy (fun r=> !Qbn cs j r) rs k hlt;have bf:((rs.take k).filter (Qbn cs j)).length<=100:=Nat.le_trans (List.length_filter_le _ _) (by rw[List.length_take];omega);have be:((rs.take k).filter (fun r=> !Qbn cs j r)).length<=100:=Nat.le_trans (List.length_filter_le _ _) (by rw[List.length_take];omega);obtain⟨F,H,rfl⟩:=own_slice aB;have HU:=Hk (Ai huo' aF);have U:=Hk (Ai Z (Ai ae (Ai V (Ai ag (Ai az E)))));clear Z ae V ag az hv hH hl hj ah hc aB huo' aF aP E;generalize a4:rs[k]=rk at*;clear a4;generalize a3:(rs.take k).filter (Qbn cs j)=f1 at*;generalize bd:(rs.take k).filter (fun r=> !Qbn cs j r)=f2 at*;clear a3 bd
   cases ht:Qbn cs j rk
   ·rw[ht] at hT ac aa;have HT:=Hk hT;have HF:=Hk (Ai ac aa);clear hT ac aa ht;go_wp2_with (first|(go_at_call 139;refine HT.out.mono ?_;rintro e w1 ⟨rfl,D⟩)|(at_builtin;refine wpList_append_own_at _ rfl _ _ 52 rfl w.heap.size 84 i0 (.slice none 0 0) 1 24 Tryz.underlying52 hi aK aQ aN rfl (by decide) _ _ _ rfl ((owns_below U.out.2.2.1 D).alloc _) ⟨w1.heap.size,0,none⟩ 1 1 [.slice F rk.length H] rfl rfl (news1 _ _ _ _ rfl) (Qc4 _ _ _) ?c3 ?c4 ?c5 ?_))
    case c3=>unfold maxLen;omega
    case c4=>omega
    case c5=>have:=D.size;simp;omega
    intro v' w5 K y _ N;have a9:=D.size;obtain⟨p1,p2,p3,p4,p5,p6⟩:=U.out;have q1:=(owns_below p1 D).alloc (.cells #[.slice F rk.length H] 84);have q3:=(owns_below p3 D).alloc (.cells #[.slice F rk.length H] 84);have M:Below w.heap.size w w5:=((bel_then p6 D).alloc (by omega) _).grown y (by simp;omega) (fun q hq=>(p3.lt q hq).1);have r1:=Qgr q1 p5 y;have hA:=Qgs q1 p5 (by simp) N;have g1:=((p2.below D).below (Qaa w1 (.cells #[.slice F rk.length H] 84))).grow q3 y;have g2:=((p4.below D).below (Qaa w1 (.cells #[.slice F rk.length H] 84))).grow q3 y;have O:=(owns_below HU.out.1 D).alloc (.cells #[.slice F rk.length H] 84);have g3:=g2.snoc (O.kept y (Qb4 (by decide) O q3)) HU.out.2;have HZ:=Hk (Ai K (Ai r1 (Ai hA (Ai g1 (Ai g3 M)))));clear K r1 hA g1 g2 g3 M y O q1 q3 p1 p2 p3 p4 p5 p6 N;go_wp2;go_roundw
    case rel=>
     obtain⟨z1,z2,z3,z4,z5,z6⟩:=HZ.out;refine⟨k+1,J,I++[.slice F rk.length H],by omega,by go_num,?_,?_,?_,?_,z3,z6⟩
     ·rw[HF.out.1];simpa using z2
     ·rw[HF.out.1];simpa using z4
     ·rw[HF.out.2];simpa using z1
     ·rw[HF.out.2];simpa using z5
    case measure=>simp[intOf];omega
   ·rw[ht] at hT ac aa;have HT:=Hk hT;have HF:=Hk (Ai ac aa);clear hT ac aa ht;go_wp2_with (first|(go_at_call 139;refine HT.out.mono ?_;rintro e w1 ⟨rfl,D⟩)|(at_builtin;refine wpList_append_own_at _ rfl _ _ 52 rfl w.heap.size 84 i0 (.slice none 0 0) 1 24 Tryz.underlying52 hi aK aQ aN rfl (by decide) _ _ _ rfl ((owns_below U.out.1 D).alloc _) ⟨w1.heap.size,0,none⟩ 1 1 [.slice F rk.length H] rfl rfl (news1 _ _ _ _ rfl) (Qc4 _ _ _) ?c3 ?c4 ?c5 ?_))
    case c3=>unfold maxLen;omega
    case c4=>omega
    case c5=>have:=D.size;simp;omega
    intro v' w5 K y _ N;have a9:=D.size;obtain⟨p1,p2,p3,p4,p5,p6⟩:=U.out;have q1:=(owns_below p1 D).alloc (.cells #[.slice F rk.length H] 84);have q3:=(owns_below p3 D).alloc (.cells #[.slice F rk.length H] 84);have M:Below w.heap.size w w5:=((bel_then p6 D).alloc (by omega) _).grown y (by simp;omega) (fun q hq=>(p1.lt q hq).1);have r1:=Qgr q3 p5.symm y;have hA:=(Qgs q3 p5.symm (by simp) N).symm;have g1:=((p4.below D).below (Qaa w1 (.cells #[.slice F rk.length H] 84))).grow q1 y;have g2:=((p2.below D).below (Qaa w1 (.cells #[.slice F rk.length H] 84))).grow q1 y;have O:=(owns_below HU.out.1 D).alloc (.cells #[.slice F rk.length H] 84);have g3:=g2.snoc (O.kept y (Qb4 (by decide) O q1)) HU.out.2;have HZ:=Hk (Ai K (Ai r1 (Ai hA (Ai g1 (Ai g3 M)))));clear K r1 hA g1 g2 g3 M y O q1 q3 p1 p2 p3 p4 p5 p6 N;go_wp2;go_roundw
    case rel=>
     obtain⟨z1,z2,z3,z4,z5,z6⟩:=HZ.out;refine⟨k+1,J++[.slice F rk.length H],I,by omega,by go_num,?_,?_,?_,?_,z3,z6⟩
     ·rw[HF.out.1];simpa using z1
     ·rw[HF.out.1];simpa using z5
     ·rw[HF.out.2];simpa using z2
     ·rw[HF.out.2];simpa using z4
    case measure=>simp[intOf];omega
  ·have a6:k=rs.length:=by omega
   subst a6;simp only[List.take_length] at Z ae V ag⊢;have U:=Hk (Ai Z (Ai ae (Ai V (Ai ag E))));clear Z ae V ag E az;go_wp2
   go_ret2
   exact⟨_,_,J,I,rfl,U.out.1,U.out.2.1,U.out.2.2.1,U.out.2.2.2.1,U.out.2.2.2.2⟩
end Go.Proofs.YtjlgejennghhlaaGreatDoor
namespace Go.Proofs.YtjlgejennghhlaaGreatDoor
namespace Stb
open Go.Shelf Go.RowKit Go.Lib Go.Sort
variable {α:Type} [Inhabited α]
theorem sym_any (enc:α->Value) (D:α->α->Int) (g:Nat) (O:Array Value) (blk y H N:Nat) (J:Array α) (F:World) (eg:∀args w,(callFunc g args).run Tryz.prog w=.ok (.enter g args) w) (E:CmpLays1 Tryz.prog g O enc D blk y J.size F) (V:Ord (ltOf D)) (R:Row1 enc F blk y J) (Z:J.size=N) (I:N<4611686018427387904):
 ∀(k a m b:Nat) (P L Q S:List α) (w:World),P.length=a->m=a+L.length->b=m+Q.length->0<L.length->0<Q.length->L.length+Q.length<=k->(P++(L++(Q++S))).length=N->Sorted (ltOf D) L->Sorted (ltOf D) Q->SW enc F blk y (P++(L++(Q++S))).toArray w->
 Calls Tryz.prog 202 #[.slice (some ⟨blk,y,none⟩) N H,.int .i64 a,.int .i64 m,.int .i64 b,.func (.func g) #[] O] w fun e w'=>e=.returned (.tuple #[])/\∃M,Sorted (ltOf D) M/\Same (ltOf D) (L++Q) M/\SW enc F blk y (P++(M++S)).toArray w'
 |0,_,_,_,_,_,_,_,_,_,_,_,h,_,hk,_,_,_,_=>by omega
 |k+1,a,m,b,P,L,Q,S,w,ha,hm,hb,hL,hQ,hk,hlen,sL,sQ,S0=>by
  by_cases h1:L.length=1
  ·obtain⟨x,rfl⟩:=List.length_eq_one_iff.1 h1;exact sym_left enc D g O blk y H a m b N x P Q S J F w eg E V R Z I hlen ha (by simpa using hm) hb sQ S0
  ·by_cases h2:Q.length=1
   ·obtain⟨x,rfl⟩:=List.length_eq_one_iff.1 h2;exact sym_right enc D g O blk y H a m b N x P L S J F w eg E V R Z I hlen ha hm (by simpa using hb) (by omega) sL S0
   ·have IH:=fun(a' m' b':Nat) (P' K U S':List α) (W:World) (q1:P'.length=a') (q2:m'=a'+K.length) (q3:b'=m'+U.length) (q4:0<K.length) (q5:0<U.length) (q6:K.length+U.length<L.length+Q.length) (q7:(P'++(K++(U++S'))).length=N) (q8:Sorted (ltOf D) K) (q9:Sorted (ltOf D) U) (ag:SW enc F blk y (P'++(K++(U++S'))).toArray W)=>sym_any enc D g O blk y H N J F eg E V R Z I k a' m' b' P' K U S' W q1 q2 q3 q4 q5 (by omega) q7 q8 q9 ag
    by_cases hc:(a+b)/2<m
    ·exact sym_gt enc D g O blk y H a m b N P L Q S J F w eg E V R Z I hlen ha hm hb (by omega) (by omega) sL sQ ((a+b)/2) rfl hc IH S0
    ·exact sym_le enc D g O blk y H a m b N P L Q S J F w eg E V R Z I hlen ha hm hb (by omega) (by omega) sL sQ ((a+b)/2) rfl hc IH S0
omit [Inhabited α] in
inductive Blk (lt:α->α->Bool) (s:Nat):List α->Prop
 |last (M:List α):M.length<=s->Sorted lt M->Blk lt s M
 |cons (M D:List α):M.length=s->Sorted lt M->Blk lt s D->Blk lt s (M++D)
inductive Full (lt:α->α->Bool) (s:Nat):List α->Prop
 |nil:Full lt s []
 |snoc (D M:List α):Full lt s D->M.length=s->Sorted lt M->Full lt s (D++M)
omit [Inhabited α] in
theorem Full.blk {lt:α->α->Bool} {s:Nat} {D:List α} (h:Full lt s D):∀{E:List α},Blk lt s E->Blk lt s (D++E):=by
 induction h with
 |nil=>intro E y;simpa using y
 |snoc D M _ h1 h2 ih=>intro E y;rw[List.append_assoc];exact ih (Blk.cons M E h1 h2 y)
omit [Inhabited α] in
theorem Blk.whole {lt:α->α->Bool} {s:Nat} {E:List α} (h:Blk lt s E) (y:E.length<=s):Sorted lt E:=by
 cases h with
 |last _ _ h2=>exact h2
 |cons M D h1 h2 h3=>
  have:D=[]:=List.length_eq_zero_iff.1 (by rw[List.length_append] at y;omega);subst this;simpa using h2
omit [Inhabited α] in
theorem Blk.two {lt:α->α->Bool} {s:Nat} {E:List α} (h:Blk lt s E) (F:0<s) (y:2*s<=E.length):∃L Q E',E=L++(Q++E')/\L.length=s/\Q.length=s/\Sorted lt L/\Sorted lt Q/\Blk lt s E':=by
 cases h with
 |last _ h1 h2=>omega
 |cons M D h1 h2 h3=>
  rw[List.length_append] at y
  cases h3 with
  |last _ k1 k2=>exact⟨M,D,[],by simp,h1,by omega,h2,k2,Blk.last _ (by simp) (sorted_short _ _ (by simp))⟩
  |cons Q E' k1 k2 k3=>exact⟨M,Q,E',rfl,h1,k1,h2,k2,k3⟩
omit [Inhabited α] in
theorem Blk.tail {lt:α->α->Bool} {s:Nat} {E:List α} (h:Blk lt s E) (F:s<E.length) (y:E.length<2*s):∃L Q,E=L++Q/\L.length=s/\0<Q.length/\Sorted lt L/\Sorted lt Q:=by
 cases h with
 |last _ h1 h2=>omega
 |cons M D h1 h2 h3=>
  rw[List.length_append] at F y;exact⟨M,D,rfl,h1,by omega,h2,h3.whole (by omega)⟩
end Stb
end Go.Proofs.YtjlgejennghhlaaGreatDoor
namespace Go.Proofs.YtjlgejennghhlaaGreatDoor
namespace Stb
open Go.Shelf Go.RowKit Go.Lib Go.Sort
variable {α:Type} [Inhabited α]
theorem stable_any (enc:α->Value) (y:α->α->Int) (g:Nat) (cb:Array Value) (blk F ai N:Nat) (O:List α) (K:World) (eg:∀args w,(callFunc g args).run Tryz.prog w=.ok (.enter g args) w) (aj:CmpLays1 Tryz.prog g cb enc y blk F O.toArray.size K) (ho:Ord (ltOf y)) (R:Row1 enc K blk F O.toArray) (hN:O.length=N) (aL:N<1152921504606846976):
 Calls Tryz.prog 193 #[.slice (some ⟨blk,F,none⟩) N ai,.int .i64 N,.func (.func g) #[] cb] K fun e w'=>e=.returned (.tuple #[])/\∃l,Sorted (ltOf y) l/\Same (ltOf y) O l/\SW enc K blk F l.toArray w':=by
 have hN':O.toArray.size=N:=by simpa using hN
 have ao:Aside (∀(a b:Nat) (P M S:List α) (W:World),(P++(M++S)).length=N->P.length=a->b=a+M.length->SW enc K blk F (P++(M++S)).toArray W->Calls Tryz.prog 201 #[.slice (some ⟨blk,F,none⟩) N ai,.int .i64 a,.int .i64 b,.func (.func g) #[] cb] W fun e w'=>e=.returned (.tuple #[])/\∃M',Sorted (ltOf y) M'/\Same (ltOf y) M M'/\SW enc K blk F (P++(M'++S)).toArray w'):=
  fun a b P M S W h1 h2 h3 V=>insertion_any enc y g cb blk F ai a b N P M S O.toArray K W eg aj ho R hN' h1 h2 h3 (by omega) V
 have ap:Aside (∀(a m b:Nat) (P L Q S:List α) (W:World),P.length=a->m=a+L.length->b=m+Q.length->0<L.length->0<Q.length->(P++(L++(Q++S))).length=N->Sorted (ltOf y) L->Sorted (ltOf y) Q->SW enc K blk F (P++(L++(Q++S))).toArray W->Calls Tryz.prog 202 #[.slice (some ⟨blk,F,none⟩) N ai,.int .i64 a,.int .i64 m,.int .i64 b,.func (.func g) #[] cb] W fun e w'=>e=.returned (.tuple #[])/\∃M,Sorted (ltOf y) M/\Same (ltOf y) (L++Q) M/\SW enc K blk F (P++(M++S)).toArray w'):=
  fun a m b P L Q S W h1 h2 h3 V h5 h6 h7 h8 h9=>sym_any enc y g cb blk F ai N O.toArray K eg aj ho R hN' (by omega) _ a m b P L Q S W h1 h2 h3 V h5 (Nat.le_refl _) h6 h7 h8 h9
 have HS:Aside (SW enc K blk F O.toArray K/\O.length=N):=⟨SW.start R.hH,hN⟩;have ak:Aside (Ord (ltOf y)):=ho;clear aj ho R hN hN';go_enter Tryz.func193,Tryz.ntmps193;go_wp2
 go_loopg [7,8] N (fun g1 va vb wr=>∃(a:Nat) (D E:List α),va=.int .i64 a/\vb=.int .i64 ((a:Int)+20)/\a<=N/\N-a<=g1/\Aside (Full (ltOf y) 20 D/\D.length=a/\Same (ltOf y) O (D++E)/\(D++E).length=N/\SW enc K blk F (D++E).toArray wr))
 case atStart=>exact⟨0,[],O,rfl,by first|rfl|go_num,Nat.zero_le _,by omega,Full.nil,rfl,Same.refl _ _,HS.out.2,by simpa using HS.out.1⟩
 case round=>
  clear HS;obtain⟨a,D,E,rfl,rfl,aB,hg,H⟩:=hrel
  by_cases hlt:a+20<=N
  ·have ah:(a:Int)+20<=(N:Int):=by omega
   obtain⟨M,J,I⟩:∃M J,Aside (E=M++J/\M.length=20):=split_at E 20 (by have:=H.out.2.1;have V:=H.out.2.2.2.1;rw[List.length_append] at V;omega);go_wp2_with (go_at_call 201;fail);rw[show(a:Int)+20=((a+20:Nat):Int) by omega];refine(ao.out a (a+20) D M J wr (by have:=H.out.2.2.2.1;rw[I.out.1] at this;exact this) H.out.2.1 (by rw[I.out.2]) (by have:=H.out.2.2.2.2;rw[I.out.1] at this;exact this)).mono ?_;rintro e w2 ⟨rfl,M',q1,Z,q3⟩;have HF:Aside (Full (ltOf y) 20 (D++M')/\(D++M').length=a+20/\Same (ltOf y) O ((D++M')++J)/\((D++M')++J).length=N/\SW enc K blk F ((D++M')++J).toArray w2):=by
    obtain⟨k1,k2,k3,U,k5⟩:=H.out;have af:M'.length=20:=by rw[<-Z.len ak.out];exact I.out.2
    rw[I.out.1] at k3 U;refine⟨Full.snoc D M' k1 af q1,by rw[List.length_append,k2,af],?_,?_,by simpa using q3⟩
    ·rw[List.append_assoc];exact k3.trans ((Same.refl _ D).app (Z.app (Same.refl _ J)))
    ·simp only[List.length_append] at U⊢;rw[af,<-I.out.2];omega
   clear q1 Z q3 H;go_wp2
   go_roundg (N-(a+20))
   case measure=>omega
   case rel=>exact⟨a+20,D++M',J,by first|go_num|(congr 1;omega),by first|go_num|(congr 1;omega),by omega,Nat.le_refl _,HF⟩
  ·have ah:¬((a:Int)+20<=(N:Int)):=by omega
   go_wp2_with (go_at_call 201;fail);refine(ao.out a N D E [] wr (by simpa using H.out.2.2.2.1) H.out.2.1 (by have V:=H.out.2.2.2.1;rw[List.length_append,H.out.2.1] at V;omega) (by simpa using H.out.2.2.2.2)).mono ?_;rintro e w2 ⟨rfl,J,q1,Z,q3⟩;have HF:Aside (∃l,Blk (ltOf y) 20 l/\Same (ltOf y) O l/\l.length=N/\SW enc K blk F l.toArray w2):=by
    obtain⟨k1,k2,k3,U,k5⟩:=H.out;have aJ:J.length=E.length:=(Z.len ak.out).symm;refine⟨D++J,k1.blk (Blk.last J (by rw[List.length_append] at U;omega) q1),k3.trans ((Same.refl _ D).app Z),by rw[List.length_append] at U⊢;omega,by simpa using q3⟩
   clear q1 Z q3 H ah hlt;go_wp2
   go_loopg [6] N (fun g2 vb wr=>∃(h:Nat),vb=.int .i64 h/\0<h/\h<=2*N+20/\N-h<=g2/\Aside (∃l,Blk (ltOf y) h l/\Same (ltOf y) O l/\l.length=N/\SW enc K blk F l.toArray wr))
   case atStart=>exact⟨20,rfl,by omega,by omega,by omega,HF⟩
   case round=>
    clear HF;obtain⟨h,rfl,al,aM,aK,H⟩:=hrel
    by_cases hlt:h<N
    ·have ah:(h:Int)<(N:Int):=by omega
     have au:Aside (∃E,Full (ltOf y) (2*h) []/\([]:List α).length=0/\Blk (ltOf y) h E/\Same (ltOf y) O ([]++E)/\([]++E).length=N/\SW enc K blk F ([]++E).toArray wr):=by
      obtain⟨l,k1,k2,k3,U⟩:=H.out;exact⟨l,Full.nil,rfl,k1,k2,k3,by simpa using U⟩
     clear H;go_wp2
     go_loopg [7,8] N (fun g3 va vb wr=>∃(a:Nat) (D E:List α),va=.int .i64 a/\vb=.int .i64 ((a:Int)+2*(h:Int))/\a<=N/\N-a<=g3/\Aside (Full (ltOf y) (2*h) D/\D.length=a/\Blk (ltOf y) h E/\Same (ltOf y) O (D++E)/\(D++E).length=N/\SW enc K blk F (D++E).toArray wr))
     case atStart=>
      obtain⟨E,I⟩:=au.out;exact⟨0,[],E,rfl,by first|rfl|go_num|(congr 1;omega),Nat.zero_le _,by omega,I⟩
     case round=>
      clear au;obtain⟨a,D,E,rfl,rfl,aB,aI,H⟩:=hrel
      by_cases hle:a+2*h<=N
      ·have aw:(a:Int)+2*(h:Int)<=(N:Int):=by omega
       obtain⟨L,Q,J,I⟩:∃L Q J,Aside (E=L++(Q++J)/\L.length=h/\Q.length=h/\Sorted (ltOf y) L/\Sorted (ltOf y) Q/\Blk (ltOf y) h J):=H.out.2.2.1.two al (by have V:=H.out.2.2.2.2.1;rw[List.length_append,H.out.2.1] at V;omega);go_wp2_with (go_at_call 202;fail);rw[show(a:Int)+(h:Int)=((a+h:Nat):Int) by omega,show(a:Int)+2*(h:Int)=((a+2*h:Nat):Int) by omega];refine(ap.out a (a+h) (a+2*h) D L Q J wr H.out.2.1 (by rw[I.out.2.1]) (by rw[I.out.2.2.1];omega) (by rw[I.out.2.1];exact al) (by rw[I.out.2.2.1];exact al) (by have:=H.out.2.2.2.2.1;rw[I.out.1] at this;exact this) I.out.2.2.2.1 I.out.2.2.2.2.1 (by have:=H.out.2.2.2.2.2;rw[I.out.1] at this;exact this)).mono ?_;rintro e w3 ⟨rfl,M,q1,Z,q3⟩;have HF:Aside (Full (ltOf y) (2*h) (D++M)/\(D++M).length=a+2*h/\Blk (ltOf y) h J/\Same (ltOf y) O ((D++M)++J)/\((D++M)++J).length=N/\SW enc K blk F ((D++M)++J).toArray w3):=by
        obtain⟨k1,k2,k3,U,k5,k6⟩:=H.out;obtain⟨r1,r2,r3,r4,r5,r6⟩:=I.out;have af:M.length=2*h:=by rw[<-Z.len ak.out,List.length_append];omega
        rw[r1] at U k5;refine⟨Full.snoc D M k1 af q1,by rw[List.length_append,k2,af],r6,?_,?_,by simpa using q3⟩
        ·rw[List.append_assoc];refine U.trans ((Same.refl _ D).app ?_);rw[<-List.append_assoc];exact Z.app (Same.refl _ J)
        ·simp only[List.length_append] at k5⊢;omega
       clear q1 Z q3 H;go_wp2
       go_roundg (N-(a+2*h))
       case measure=>omega
       case rel=>exact⟨a+2*h,D++M,J,by first|go_num|(congr 1;omega),by first|go_num|(congr 1;omega),by omega,Nat.le_refl _,HF⟩
      ·have aw:¬((a:Int)+2*(h:Int)<=(N:Int)):=by omega
       by_cases hmn:a+h<N
       ·have aC:(a:Int)+(h:Int)<(N:Int):=by omega
        obtain⟨L,Q,I⟩:∃L Q,Aside (E=L++Q/\L.length=h/\0<Q.length/\Sorted (ltOf y) L/\Sorted (ltOf y) Q):=H.out.2.2.1.tail (by have V:=H.out.2.2.2.2.1;rw[List.length_append,H.out.2.1] at V;omega) (by have V:=H.out.2.2.2.2.1;rw[List.length_append,H.out.2.1] at V;omega);go_wp2_with (go_at_call 202;fail);rw[show(a:Int)+(h:Int)=((a+h:Nat):Int) by omega];refine(ap.out a (a+h) N D L Q [] wr H.out.2.1 (by rw[I.out.2.1]) (by have V:=H.out.2.2.2.2.1;rw[I.out.1,List.length_append,List.length_append,H.out.2.1,I.out.2.1] at V;omega) (by rw[I.out.2.1];exact al) I.out.2.2.1 (by have:=H.out.2.2.2.2.1;rw[I.out.1] at this;simpa using this) I.out.2.2.2.1 I.out.2.2.2.2 (by have:=H.out.2.2.2.2.2;rw[I.out.1] at this;simpa using this)).mono ?_;rintro e w3 ⟨rfl,M,q1,Z,q3⟩;have HF:Aside (∃l,Blk (ltOf y) (2*h) l/\Same (ltOf y) O l/\l.length=N/\SW enc K blk F l.toArray w3):=by
         obtain⟨k1,k2,k3,U,k5,k6⟩:=H.out;obtain⟨r1,r2,r3,r4,r5⟩:=I.out;have af:M.length=E.length:=by rw[r1,<-Z.len ak.out]
         rw[r1] at U;refine⟨D++M,k1.blk (Blk.last M (by rw[List.length_append] at k5;omega) q1),U.trans ((Same.refl _ D).app Z),by rw[List.length_append] at k5⊢;omega,by simpa using q3⟩
        clear q1 Z q3 H;go_wp2
        go_roundg (N-2*h)
        case measure=>omega
        case rel=>exact⟨2*h,by first|go_num|(congr 1;omega),by omega,by omega,Nat.le_refl _,HF⟩
       ·have aC:¬((a:Int)+(h:Int)<(N:Int)):=by omega
        have HF:Aside (∃l,Blk (ltOf y) (2*h) l/\Same (ltOf y) O l/\l.length=N/\SW enc K blk F l.toArray wr):=by
         obtain⟨k1,k2,k3,U,k5,k6⟩:=H.out;exact⟨D++E,k1.blk (Blk.last E (by rw[List.length_append] at k5;omega) (k3.whole (by rw[List.length_append] at k5;omega))),U,k5,k6⟩
        clear H;go_wp2
        go_roundg (N-2*h)
        case measure=>omega
        case rel=>exact⟨2*h,by first|go_num|(congr 1;omega),by omega,by omega,Nat.le_refl _,HF⟩
    ·have ah:¬((h:Int)<(N:Int)):=by omega
     go_wp2
     go_end0
     obtain⟨l,k1,k2,k3,U⟩:=H.out;exact⟨rfl,l,k1.whole (by omega),k2,U⟩
theorem sortStable_any (enc:α->Value) (y:α->α->Int) (g:Nat) (I:Array Value) (blk h H N:Nat) (E:List α) (D:World) (eg:∀args w,(callFunc g args).run Tryz.prog w=.ok (.enter g args) w) (F:CmpLays1 Tryz.prog g I enc y blk h E.toArray.size D) (J:Ord (ltOf y)) (R:Row1 enc D blk h E.toArray) (M:E.length=N) (U:N<1152921504606846976):
 Calls Tryz.prog 174 #[.slice (some ⟨blk,h,none⟩) N H,.func (.func g) #[] I] D fun e w'=>e=.returned (.tuple #[])/\∃l,Sorted (ltOf y) l/\Same (ltOf y) E l/\SW enc D blk h l.toArray w':=by
 have O:Aside (Calls Tryz.prog 193 #[.slice (some ⟨blk,h,none⟩) N H,.int .i64 N,.func (.func g) #[] I] D fun e w'=>e=.returned (.tuple #[])/\∃l,Sorted (ltOf y) l/\Same (ltOf y) E l/\SW enc D blk h l.toArray w'):=stable_any enc y g I blk h H N E D eg F J R M U;clear F J R M;go_enter Tryz.func174,Tryz.ntmps174;go_wp2_with (go_at_call 193;fail);refine O.out.mono ?_;rintro e V ⟨rfl,K⟩;have Z:Aside (∃l,Sorted (ltOf y) l/\Same (ltOf y) E l/\SW enc D blk h l.toArray V):=K;clear K;go_wp2
 go_end0
 exact⟨rfl,Z.out⟩
end Stb
end Go.Proofs.YtjlgejennghhlaaGreatDoor
