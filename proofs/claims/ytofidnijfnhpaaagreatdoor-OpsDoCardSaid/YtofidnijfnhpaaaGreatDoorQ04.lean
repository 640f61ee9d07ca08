import Derived.Lib.SliceRun
import Derived.Maps.AppendAt
import Derived.Test.YtofidnijfnhpaaaGreatDoorQ01
import Derived.Test.YtofidnijfnhpaaaGreatDoorQ03
set_option linter.unusedSimpArgs false
set_option linter.unusedVariables false
set_option linter.unusedSectionVars false
set_option maxRecDepth 1000000
set_option maxHeartbeats 16000000
namespace Go.Proofs.YtofidnijfnhpaaaGreatDoor
open Go.RowKit
structure Jb where
 at_:Int
 code:Int
 outs:Value
 ins:Value
 cols:Value
 op:ByteArray
 left:Ag
 right:Ag
 retry:Int
def Jb.cells (j:Jb):Array Value:=#[.int .i64 j.at_,.int .i64 j.code,j.outs,j.ins,j.cols,.string j.op,.string j.left.1,.int .i64 j.left.2.1,.int .i64 j.left.2.2.1,.string j.left.2.2.2,.string j.right.1,.int .i64 j.right.2.1,.int .i64 j.right.2.2.1,.string j.right.2.2.2,.int .i64 j.retry]
abbrev aggA (x:Ag):Value:=.agg #[.string x.1,.int .i64 x.2.1,.int .i64 x.2.2.1,.string x.2.2.2]
def QaH (cs:List Cl) (j:Jb) (r:List Vl):Bool:=Qd1 j.op.data.toList (Qa7 (QaJ cs r j.left) (QaJ cs r j.right)) (Qa7 (QaJ cs r j.right) (QaJ cs r j.left))
def Qb3 (cs:List Cl) (x:Ag):Prop:=x.1.data.toList=[]\/∃i,Qak cs x.1.data.toList=some i
def Qaz (w:World) (jb:Nat) (j:Jb):Prop:=∀k v,j.cells[k]? =some v->w.cell? ⟨jb,k,none⟩=some v
theorem Qaz.below {w y:World} {B o:Nat} {j:Jb} (h:Qaz w o j) (z:Below B w y) (q:o<B):Qaz y o j:=fun k v hk=>(z.cell (p:=⟨o,k,none⟩) q).trans (h k v hk)
theorem Qaz.lt {w:World} {o:Nat} {j:Jb} (h:Qaz w o j):o<w.heap.size:=World.block_lt_of_cell? w _ (h 0 _ rfl)
theorem Qg8 (A B:Value) (cs:List Cl) (r:List Vl) (j:Jb) (h I:Nat) (w:World) (o:Qaz w h j) (y:w.cell? ⟨I,0,none⟩=some B) (O:Qav w B cs) (T:Qbk w A r) (F:cs.length<=100) (N:r.length=cs.length) (q:Qb3 cs j.left) (z:Qb3 cs j.right):
 Calls Tryz.prog 65 #[A,.pointer (some ⟨h,0,none⟩),.pointer (some ⟨I,0,none⟩)] w fun e w'=>e=.returned (.bool (QaH cs j r))/\Below w.heap.size w w':=by
 have e5:=cell_regrown (show w.cell? ⟨h,5,none⟩=some (.string j.op) from o 5 _ rfl)
 have e6:=cell_regrown (show w.cell? ⟨h,6,none⟩=some (.string j.left.1) from o 6 _ rfl)
 have e7:=cell_regrown (show w.cell? ⟨h,7,none⟩=some (.int .i64 j.left.2.1) from o 7 _ rfl)
 have e8:=cell_regrown (show w.cell? ⟨h,8,none⟩=some (.int .i64 j.left.2.2.1) from o 8 _ rfl)
 have e9:=cell_regrown (show w.cell? ⟨h,9,none⟩=some (.string j.left.2.2.2) from o 9 _ rfl)
 have ac:=cell_regrown (show w.cell? ⟨h,10,none⟩=some (.string j.right.1) from o 10 _ rfl)
 have aa:=cell_regrown (show w.cell? ⟨h,11,none⟩=some (.int .i64 j.right.2.1) from o 11 _ rfl)
 have U:=cell_regrown (show w.cell? ⟨h,12,none⟩=some (.int .i64 j.right.2.2.1) from o 12 _ rfl)
 have V:=cell_regrown (show w.cell? ⟨h,13,none⟩=some (.string j.right.2.2.2) from o 13 _ rfl)
 have ea:=cell_regrown y
 have M:∀(x:Ag) (E:x=j.left\/x=j.right) d os,_:=fun x E d os=>Calls.regrown_of (Qeq A B cs r x (Sort.grow (redrawn w d) os) (O.below (below_regrown _ _ _)) (T.below (below_regrown _ _ _)) F N (by rcases E with rfl|rfl;exact q;exact z))
 have J:∀(op:ByteArray) (a b:Vl) d os,_:=fun op a b d os=>Calls.regrown_of (holds_any op a b (Sort.grow (redrawn w d) os))
 obtain⟨a,c,rfl,-⟩:=O
 obtain⟨a',c',rfl,-⟩:=T
 unfold QaH
 clear o y q z N F
 go_enter Tryz.func65,Tryz.ntmps65
 go_wp2
 refine wp_region_quiet_below (by kernel_rfl) (by kernel_rfl) ?_
 repeat(any_goals(first|go_big_quiet_step (first|(go_at_call 67;exact M _ (by first|exact Or.inl rfl|exact Or.inr rfl) _ _)|(go_at_call 66;exact J _ _ _ _ _))|quiet_step (first|(go_at_call 67;exact M _ (by first|exact Or.inl rfl|exact Or.inr rfl) _ _)|(go_at_call 66;exact J _ _ _ _ _))))
 refine wpQuiet_nil ?_
 intro _ K
 obtain⟨⟨dq,Z⟩,D⟩:=K
 subst D
 go_wp2
 go_ret
 exact⟨rfl,below_regrown _ _ _⟩
def Qac (w:World) (B:Nat) (us:List Value) (rs:List (List Vl)):Prop:=
 us.length=rs.length/\∀(j:Nat) (h:j<us.length) (h':j<rs.length),w.ownsRow B 24 3 us[j] rs[j].length (Qai rs[j])/\∀x∈rs[j],x.2.2.size<=maxLen
theorem Qac.below {w o:World} {B:Nat} {us:List Value} {rs:List (List Vl)} (h:Qac w B us rs) (q:Below w.heap.size w o):Qac o B us rs:=
 ⟨h.1,fun j hj hj'=>⟨Qaf (h.2 j hj hj').1 q,(h.2 j hj hj').2⟩⟩
theorem Qac.mono {w:World} {B o:Nat} {us:List Value} {rs:List (List Vl)} (h:Qac w B us rs) (q:o<=B):Qac w o us rs:=
 ⟨h.1,fun j hj hj'=>⟨Qam q (h.2 j hj hj').1,(h.2 j hj hj').2⟩⟩
theorem Qac.grow {w o:World} {B q:Nat} {us:List Value} {rs:List (List Vl)} {v:Value} {n:Nat} {z:List Value} (h:Qac w B us rs) (A:w.ownsRow q 57 1 v n z) (y:w.grownBy o v.ownBlock):Qac o B us rs:=
 ⟨h.1,fun j hj hj'=>⟨(h.2 j hj hj').1.kept y (Qch (by decide) (h.2 j hj hj').1 A),(h.2 j hj hj').2⟩⟩
theorem Qac.snoc {w:World} {B:Nat} {us:List Value} {rs:List (List Vl)} {u:Value} {r:List Vl} (h:Qac w B us rs) (y:w.ownsRow B 24 3 u r.length (Qai r)) (A:∀x∈r,x.2.2.size<=maxLen):Qac w B (us++[u]) (rs++[r]):=by
 refine⟨by simp[h.1],fun j hj hj'=>?_⟩
 by_cases o:j<us.length
 ·have hlt':j<rs.length:=by rw[<-h.1];exact o
  simp only[List.getElem_append_left o,List.getElem_append_left hlt']
  exact h.2 j o hlt'
 ·have q:j=us.length:=by rw[List.length_append] at hj;simp at hj;omega
  subst q
  have D:(us++[u])[us.length]=u:=by simp
  have z:(rs++[r])[us.length]'(by rw[h.1];simp)=r:=by simp[h.1]
  rw[D]
  simp only[z]
  exact⟨y,A⟩
theorem Qac.nil (w:World) (B:Nat):Qac w B [] []:=⟨rfl,fun j hj=>absurd hj (by simp)⟩
theorem QbA {w:World} {B D:Nat} {v:Value} {us:List Value} {rs:List (List Vl)} (A:w.ownsRow B 57 1 v rs.length us) (o:Qac w D us rs):QaC w v rs:=by
 have y:=A
 obtain⟨F,⟨rfl,q⟩|⟨g,z,E,rfl,I,J,q,K,_,_⟩⟩:=A
 ·exact⟨none,0,by rw[q],Or.inl (List.length_eq_zero_iff.1 q)⟩
 ·refine⟨some ⟨g,0,none⟩,z,rfl,Or.inr ⟨g,0,rfl,(y.lt g rfl).2,fun j hj=>?_⟩⟩
  have h:j<us.length:=by rw[o.1];exact hj
  refine⟨us[j],?_,Qb7 (o.2 j h hj).1 (o.2 j h hj).2⟩
  have e:=y.cellAt j (by omega)
  rw[show 0+j=j by omega,e,List.getElem?_eq_getElem h]
theorem QaZ (h:List Vl):(Qai h).length=h.length*3:=by
 induction h with
 |nil=>rfl
 |cons c r ih=>simp only[Qai,List.flatMap_cons,List.length_append,List.length_cons,List.length_nil] at ih⊢;omega
theorem Qbc (j:List Vl):∀u∈Qai j,u.oneCell'=true:=by
 intro u h
 rw[Qai,List.mem_flatMap] at h
 obtain⟨x,-,h⟩:=h
 simp at h
 rcases h with rfl|rfl|rfl<;>rfl
theorem QbX {w:World} {b o:Nat} {y:List Vl} (h:QaK w b o y) (j:Nat) (u:Value) (q:(Qai y)[j]? =some u):w.cell? ((⟨b,o,none⟩:Addr).add j)=some u:=by
 have B:j<(Qai y).length:=(List.getElem?_eq_some_iff.1 q).1
 rw[QaZ] at B
 have z:=Qcx y (j/3) (by omega)
 have A:=h (j/3) (by omega)
 rw[Addr.add_mid]
 rcases(show j=j/3*3\/j=j/3*3+1\/j=j/3*3+2 by omega) with e|e|e
 ·rw[e] at q⊢
  rw[z.1] at q;injection q with q;subst q
  have:(j/3*3)/3*3=j/3*3:=by omega
  simpa [this] using A.1
 ·rw[e] at q⊢
  rw[z.2.1] at q;injection q with q;subst q
  have:=A.2.1
  rw[Nat.add_assoc] at this
  exact this
 ·rw[e] at q⊢
  rw[z.2.2] at q;injection q with q;subst q
  have:=A.2.2
  rw[Nat.add_assoc] at this
  exact this
theorem QcN (w:World) (e:TypeId) (z B:Nat) (h:B<=w.heap.size):(w.alloc (.cells #[] e)).ownsRow B e z (.slice (some ⟨w.heap.size,0,none⟩) 0 0) 0 []:=
 ⟨by simp,Or.inr ⟨w.heap.size,0,#[],rfl,h,by show(w.heap.push _)[w.heap.size]? =_;simp,Nat.le_refl _,by unfold maxLen;omega,by simp,by simp⟩⟩
theorem Qg9 (b o n c:Nat) (y:List Vl) (w:World) (E:y.length=n) (Z:n<=100) (T:b<w.heap.size) (D:QaK w b o y):
 Calls Tryz.prog 91 #[.slice (some ⟨b,o,none⟩) n c] w fun e w'=>∃v,e=.returned v/\w'.ownsRow w.heap.size 24 3 v n (Qai y)/\Below w.heap.size w w':=by
 obtain⟨U,K,I,B,J⟩:=info_parts Tryz.infoVal
 have O:=Hk E
 have V:=Hk D
 clear E D
 have aa:∀(w:World) (a:Option Addr) (n c A z:Nat),(binOp .eql 57 (.slice a n c) (.slice none A z)).run Tryz.prog w=.ok (.bool a.isNone) w:=fun w a n c A z=>Lib.run_eql_slice_nil w _ _ a n c A z Tryz.underlying57
 go_enter Tryz.func91,Tryz.ntmps91
 go_wp2_with (at_builtin;refine wpList_append_own _ rfl _ _ 57 rfl w.heap.size 24 U (.agg #[.int .i64 0,.int .i64 0,.string ⟨#[]⟩]) 3 32 Tryz.underlying57 K I B J rfl (by decide) _ _ _ rfl (QcN w _ _ _ (Nat.le_refl _)) ⟨b,o,none⟩ n c (Qai y) rfl ?c0 (QbX (V.out.below (Qab _ _) T)) (Qbc y) ?c3 ?c4 ?c5 ?_)
 case c0=>rw[QaZ,O.out]
 case c3=>unfold maxLen;omega
 case c4=>omega
 case c5=>simp
 intro v' M j h _
 have F:Below w.heap.size w M:=(Qab w _).grown h (by simp) (fun q hq=>by simp[Value.ownBlock] at hq;omega)
 have N:=Hk j
 clear j h
 go_wp2
 go_ret
 exact⟨_,rfl,N.out,F⟩
theorem QbY (j:List Cl):∀u∈Qap j,u.oneCell'=true:=by
 intro u h
 rw[Qap,List.mem_flatMap] at h
 obtain⟨x,-,h⟩:=h
 simp at h
 rcases h with rfl|rfl<;>rfl
theorem QcO {w:World} {b o:Nat} {y:List Cl} (h:Qas w b o y) (j:Nat) (u:Value) (q:(Qap y)[j]? =some u):w.cell? ((⟨b,o,none⟩:Addr).add j)=some u:=by
 have z:j<(Qap y).length:=(List.getElem?_eq_some_iff.1 q).1
 rw[Qd0] at z
 have A:=Qdc y (j/2) (by omega)
 have B:=h (j/2) (by omega)
 rw[Addr.add_mid]
 rcases(show j=j/2*2\/j=j/2*2+1 by omega) with e|e
 ·rw[e] at q⊢
  rw[A.1] at q;injection q with q;subst q
  have:(j/2*2)/2*2=j/2*2:=by omega
  simpa [this] using B.1
 ·rw[e] at q⊢
  rw[A.2] at q;injection q with q;subst q
  have:=B.2
  rw[Nat.add_assoc] at this
  exact this
theorem Qha (b o n c:Nat) (y:List Cl) (w:World) (E:y.length=n) (Z:n<=100) (T:b<w.heap.size) (D:Qas w b o y):
 Calls Tryz.prog 55 #[.slice (some ⟨b,o,none⟩) n c] w fun e w'=>∃v,e=.returned v/\w'.ownsRow w.heap.size 56 2 v n (Qap y)/\Below w.heap.size w w':=by
 obtain⟨U,K,I,B,J⟩:=info_parts Tryz.infoCol
 have O:=Hk E
 have V:=Hk D
 clear E D
 have aa:∀(w:World) (a:Option Addr) (n c A z:Nat),(binOp .eql 33 (.slice a n c) (.slice none A z)).run Tryz.prog w=.ok (.bool a.isNone) w:=fun w a n c A z=>Lib.run_eql_slice_nil w _ _ a n c A z Tryz.underlying33
 go_enter Tryz.func55,Tryz.ntmps55
 go_wp2_with (at_builtin;refine wpList_append_own _ rfl _ _ 33 rfl w.heap.size 56 U (.agg #[.string ⟨#[]⟩,.int .i64 0]) 2 24 Tryz.underlying33 K I B J rfl (by decide) _ _ _ rfl (QcN w _ _ _ (Nat.le_refl _)) ⟨b,o,none⟩ n c (Qap y) rfl ?c0 (QcO (V.out.below (Qab _ _) T)) (QbY y) ?c3 ?c4 ?c5 ?_)
 case c0=>rw[Qd0,O.out]
 case c3=>unfold maxLen;omega
 case c4=>omega
 case c5=>simp
 intro v' M j h _
 have F:Below w.heap.size w M:=(Qab w _).grown h (by simp) (fun q hq=>by simp[Value.ownBlock] at hq;omega)
 have N:=Hk j
 clear j h
 go_wp2
 go_ret
 exact⟨_,rfl,N.out,F⟩
theorem Qd2 (v:Value) (j:List Vl) (w:World) (h:Qbk w v j) (q:1<=j.length) (A:j.length<=100):
 Calls Tryz.prog 91 #[v] w fun e w'=>∃v',e=.returned v'/\w'.ownsRow w.heap.size 24 3 v' j.length (Qai j)/\Below w.heap.size w w':=by
 obtain⟨a,c,rfl,B,h⟩:=h
 rcases h with h|⟨b,o,rfl,z,y⟩
 ·rw[h] at q;simp at q
 ·exact Qg9 b o j.length c j w rfl A z y
theorem Qae {w:World} {B:Nat} {e:TypeId} {z:Nat} {v:Value} {n:Nat} {j:List Value} (h:w.ownsRow B e z v n j):∃a c,v=.slice a n c:=by
 obtain⟨-,⟨rfl,o⟩|⟨g,y,q,rfl,-⟩⟩:=h
 ·exact⟨none,0,by rw[o]⟩
 ·exact⟨_,_,rfl⟩
theorem QbG (w:World) (v:Value) (t:TypeId) (H:Nat) (o:w.heap.size=H):∀j u,[v][j]? =some u->(w.alloc (.cells #[v] t)).cell? ((⟨H,0,none⟩:Addr).add j)=some u:=by
 intro j u h
 match j,h with
 |0,h=>simp at h;subst h;subst o;simp[Addr.add]
theorem QbZ (a:Option Addr) (n c:Nat):∀u∈[Value.slice a n c],u.oneCell'=true:=by intro u h;simp at h;subst h;rfl
theorem Qhb {w:World} {v:Value} {rs:List (List Vl)} (h:QaC w v rs) (j:0<rs.length):∃b o c,v=.slice (some ⟨b,o,none⟩) rs.length c/\b<w.heap.size/\Qdm w b o rs:=by
 obtain⟨a,c,rfl,h⟩:=h
 rcases h with h|⟨b,o,rfl,y,q⟩
 ·rw[h] at j;simp at j
 ·exact⟨b,o,c,rfl,y,q⟩
theorem Qer {w:World} {u:Value} {r:List Vl} (h:Qbk w u r):∃a c,u=.slice a r.length c:=by
 obtain⟨a,c,rfl,-⟩:=h
 exact⟨a,c,rfl⟩
theorem Qba (v:Value) (rs:List (List Vl)) (m:Nat) (w:World) (hr:QaC w v rs) (hl:∀r∈rs,r.length=m) (h1:1<=m) (h6:m<=100) (aB:rs.length<=100):
 Calls Tryz.prog 63 #[v] w fun e w'=>∃v' us,e=.returned v'/\w'.ownsRow w.heap.size 57 1 v' rs.length us/\Qac w' w.heap.size us rs/\Below w.heap.size w w':=by
 obtain⟨i0,hi,ap,aj,ao⟩:=info_parts Tryz.infoRow
 have HR:=Hk hr
 have HL:=Hk hl
 clear hl
 obtain⟨va,aE,rfl,-⟩:=hr
 go_enter Tryz.func63,Tryz.ntmps63
 go_wp2
 go_loopw [3,8] (fun l i wr=>∃(k:Nat) (us:List Value),k<=rs.length/\i=.int .i64 k/\wr.ownsRow w.heap.size 57 1 l k us/\Qac wr w.heap.size us (rs.take k)/\Below w.heap.size w wr) (fun _ i _=>rs.length-(intOf i).toNat)
 case atStart=>exact⟨0,[],Nat.zero_le _,rfl,World.ownsRow_nil _ _ _ _,Qac.nil _ _,Below.refl _ _⟩
 case round=>
  obtain⟨k,us,hk,rfl,y,h,z⟩:=hrel
  obtain⟨la,lc,rfl⟩:=Qae y
  have B:=Hk (Ai y h)
  have HX:=Hk z
  have aC:=z.size
  by_cases hlt:k<rs.length
  ·obtain⟨b,o,c,ac,al,T⟩:=Qhb HR.out (by omega)
   simp only[Value.slice.injEq,true_and] at ac
   obtain⟨rfl,rfl⟩:=ac
   obtain⟨u,hu,F⟩:=T k hlt
   have cu:=cK z al hu
   have Z:=F.below z
   obtain⟨ua,uc,rfl⟩:=Qer F
   have aa:=HL.out _ (List.getElem_mem hlt)
   have U:=Qd2 _ _ wr Z (by omega) (by omega)
   have hsz:∀x∈rs[k],x.2.2.size<=maxLen:=by obtain⟨_,_,_,hs,_⟩:=F;exact hs
   have HC:=Hk U
   have HS:=Hk (Ai hsz aa)
   clear U T hu F Z z y h hsz aa
   generalize V:rs[k]=rk at*
   have af:=Hk V
   clear V
   go_wp2_with (first|(go_at_call 91;refine HC.out.mono ?_;rintro e w1 ⟨v1,rfl,M,A⟩;obtain⟨D,I,rfl⟩:=Qae M)|(at_builtin;refine wpList_append_own _ rfl _ _ 34 rfl w.heap.size 57 i0 (.slice none 0 0) 1 24 Tryz.underlying34 hi ap aj ao rfl (by decide) _ _ _ rfl ((Qaf B.out.1 A).alloc _) ⟨w1.heap.size,0,none⟩ 1 1 [.slice D rk.length I] rfl rfl (QbG _ _ _ _ rfl) (QbZ _ _ _) ?c3 ?c4 ?c5 ?_))
   case c3=>unfold maxLen;omega
   case c4=>omega
   case c5=>have:=A.size;simp;omega
   intro v' w5 E j _
   have aD:=A.size
   have K:Below w.heap.size w w5:=((Qaa HX.out A).alloc (by omega) _).grown j (by simp;omega) (fun q hq=>(B.out.1.lt q hq).1)
   have N:=((Qaf B.out.1 A).alloc (.cells #[.slice D rk.length I] 57))
   have O:=((B.out.2.below A).below (Qab w1 (.cells #[.slice D rk.length I] 57))).grow N j
   have ab:=(M.alloc (.cells #[.slice D rk.length I] 57)).kept j (Qch (by decide) (M.alloc _) N)
   have J:=O.snoc (Qam (by omega) ab) HS.out.1
   rw[show rs.take k++[rk]=rs.take (k+1) by rw[List.take_succ_eq_append_getElem hlt,af.out]] at J
   have HF:=Hk (Ai E (Ai J K))
   clear E j J K O ab N
   go_wp2
   go_roundw
   case rel=>exact⟨k+1,_,by omega,by go_num,HF.out.1,HF.out.2.1,HF.out.2.2⟩
   case measure=>simp[intOf];omega
  ·have ag:k=rs.length:=by omega
   subst ag
   rw[List.take_of_length_le (Nat.le_refl _)] at h
   clear B
   have B:=Hk (Ai y h)
   clear y h z
   go_wp2
   go_ret
   exact⟨_,us,rfl,B.out.1,B.out.2,HX.out⟩
theorem Qjb {w:World} {B D:Nat} {v:Value} {us:List Value} {rs:List (List Vl)} (z:w.ownsRow D 57 1 v rs.length us) (h:Qac w B us rs) (k:Nat) (y:k<rs.length):
 ∃g c u,v=.slice (some ⟨g,0,none⟩) rs.length c/\g<w.heap.size/\w.cell? ⟨g,k,none⟩=some u/\w.ownsRow B 24 3 u rs[k].length (Qai rs[k])/\∀x∈rs[k],x.2.2.size<=maxLen:=by
 have j:=z
 obtain⟨-,⟨rfl,A⟩|⟨g,o,E,rfl,F,I,A,J,_,_⟩⟩:=z
 ·omega
 ·have q:k<us.length:=by rw[h.1];exact y
  refine⟨g,o,us[k],rfl,(j.lt g rfl).2,?_,h.2 k q y⟩
  have e:=j.cellAt k (by omega)
  rw[e,List.getElem?_eq_getElem q]
def Qbt (u v:Value):Prop:=∀b,u.ownBlock=some b->v.ownBlock=some b->False
theorem QdJ {w j:World} {B:Nat} {v u:Value} {e:TypeId} {z k:Nat} {o:List Value} (q:w.ownsRow B e z u k o) (A:Qbt u v) (y:w.grownBy j v.ownBlock):j.ownsRow B e z u k o:=by
 refine q.kept y ?_
 cases h:u.ownBlock with
 |none=>exact Or.inl rfl
 |some b=>exact Or.inr (fun e=>A b h e.symm)
theorem Qe5 {w:World} {B:Nat} {v o u:Value} {e:TypeId} {z k:Nat} {E:List Value} (D:w.ownsRow B e z u k E) (F:Qbt u v) {H:Nat} (A:w.heap.size=H) (y:o.ownBlock=v.ownBlock\/o.ownBlock=some H):Qbt u o:=by
 subst A
 intro b q j
 rcases y with h|h
 ·exact F b q (by rw[<-h];exact j)
 ·have:=(D.lt b q).2
  rw[h] at j
  injection j with j
  omega
theorem Qbt.symm {u v:Value} (h:Qbt u v):Qbt v u:=fun b h1 h2=>h b h2 h1
theorem Qes {α:Type} (p:α->Bool) (l:List α) (k:Nat) (h:k<l.length):(l.take (k+1)).filter p=(l.take k).filter p++(if p l[k] then[l[k]] else[]):=by
 rw[List.take_succ_eq_append_getElem h,List.filter_append]
 simp only[List.filter_cons,List.filter_nil]
theorem Qim (v vc:Value) (cs:List Cl) (rs:List (List Vl)) (us:List Value) (j:Jb) (jb ab B:Nat) (w:World) (hv:w.ownsRow B 57 1 v rs.length us) (hH:Qac w B us rs) (hB:B<=w.heap.size)
 (hj:Qaz w jb j) (ae:w.cell? ⟨ab,0,none⟩=some vc) (aX:ab<w.heap.size) (hc:Qav w vc cs) (h6:cs.length<=100) (hl:∀r∈rs,r.length=cs.length) (bn:rs.length<=100) (aI:Qb3 cs j.left) (aM:Qb3 cs j.right):
 Calls Tryz.prog 64 #[v,.func (.func 65) #[] #[.pointer (some ⟨jb,0,none⟩),.pointer (some ⟨ab,0,none⟩)]] w fun e w'=>∃v1 v2 E D,e=.returned (.tuple #[v1,v2])/\w'.ownsRow w.heap.size 57 1 v1 (rs.filter (QaH cs j)).length E/\Qac w' B E (rs.filter (QaH cs j))/\w'.ownsRow w.heap.size 57 1 v2 (rs.filter (fun r=> !QaH cs j r)).length D/\Qac w' B D (rs.filter (fun r=> !QaH cs j r))/\Below w.heap.size w w':=by
 obtain⟨i0,hi,aO,aH,aK⟩:=info_parts Tryz.infoRow
 have HV:=Hk (Ai hv (Ai hH hl))
 have HJ:=Hk (Ai hj (Ai ae hc))
 have aJ:=Hk (Ai aI aM)
 have a6:=hj.lt
 obtain⟨va,bj,rfl⟩:=Qae hv
 clear hv hH hl hj ae hc aI aM
 go_enter Tryz.func64,Tryz.ntmps64
 go_wp2
 go_loopw [4,5,10] (fun l1 l2 i wr=>∃(k:Nat) (E D:List Value),k<=rs.length/\i=.int .i64 k/\wr.ownsRow w.heap.size 57 1 l1 ((rs.take k).filter (QaH cs j)).length E/\Qac wr B E ((rs.take k).filter (QaH cs j))/\wr.ownsRow w.heap.size 57 1 l2 ((rs.take k).filter (fun r=> !QaH cs j r)).length D/\Qac wr B D ((rs.take k).filter (fun r=> !QaH cs j r))/\Qbt l1 l2/\Below w.heap.size w wr) (fun _ _ i _=>rs.length-(intOf i).toNat)
 case atStart=>exact⟨0,[],[],Nat.zero_le _,rfl,World.ownsRow_nil _ _ _ _,Qac.nil _ _,World.ownsRow_nil _ _ _ _,Qac.nil _ _,fun b h=>by simp[Value.ownBlock] at h,Below.refl _ _⟩
 case round=>
  obtain⟨k,E,D,hk,rfl,T,af,U,ad,aw,z⟩:=hrel
  obtain⟨bm,bi,rfl⟩:=Qae T
  obtain⟨bh,bl,rfl⟩:=Qae U
  have bk:=z.size
  by_cases hlt:k<rs.length
  ·obtain⟨hv,hH,hl⟩:=HV.out
   obtain⟨g,c,u,aL,a8,aN,az,aE⟩:=Qjb hv hH k hlt
   simp only[Value.slice.injEq,true_and] at aL
   obtain⟨rfl,rfl⟩:=aL
   have cu:=cK z a8 aN
   have huo':=Qaf az z
   obtain⟨hj,ae,hc⟩:=HJ.out
   have hT:=Qg8 u vc cs rs[k] j jb ab wr (hj.below z a6) (cK z aX ae) (hc.below z) (Qb7 huo' aE) h6 (hl _ (List.getElem_mem hlt)) aJ.out.1 aJ.out.2
   have V:=Qes (QaH cs j) rs k hlt
   have O:=Qes (fun r=> !QaH cs j r) rs k hlt
   have bg:((rs.take k).filter (QaH cs j)).length<=100:=Nat.le_trans (List.length_filter_le _ _) (by rw[List.length_take];omega)
   have bf:((rs.take k).filter (fun r=> !QaH cs j r)).length<=100:=Nat.le_trans (List.length_filter_le _ _) (by rw[List.length_take];omega)
   obtain⟨F,I,rfl⟩:=Qae az
   have HU:=Hk (Ai huo' aE)
   have N:=Hk (Ai T (Ai af (Ai U (Ai ad (Ai aw z)))))
   clear T af U ad aw hv hH hl hj ae hc az huo' aE aN z
   generalize ba:rs[k]=rk at*
   clear ba
   generalize aY:(rs.take k).filter (QaH cs j)=f1 at*
   generalize aZ:(rs.take k).filter (fun r=> !QaH cs j r)=f2 at*
   clear aY aZ
   cases ht:QaH cs j rk
   ·rw[ht] at hT V O
    have HT:=Hk hT
    have Z:=Hk (Ai V O)
    clear hT V O ht
    go_wp2_with (first|(go_at_call 65;refine HT.out.mono ?_;rintro e w1 ⟨rfl,y⟩)|(at_builtin;refine wpList_append_own_at _ rfl _ _ 34 rfl w.heap.size 57 i0 (.slice none 0 0) 1 24 Tryz.underlying34 hi aO aH aK rfl (by decide) _ _ _ rfl ((Qaf N.out.2.2.1 y).alloc _) ⟨w1.heap.size,0,none⟩ 1 1 [.slice F rk.length I] rfl rfl (QbG _ _ _ _ rfl) (QbZ _ _ _) ?c3 ?c4 ?c5 ?_))
    case c3=>unfold maxLen;omega
    case c4=>omega
    case c5=>have:=y.size;simp;omega
    intro v' w5 A o _ J
    have a4:=y.size
    obtain⟨p1,p2,p3,p4,p5,p6⟩:=N.out
    have q1:=(Qaf p1 y).alloc (.cells #[.slice F rk.length I] 57)
    have q3:=(Qaf p3 y).alloc (.cells #[.slice F rk.length I] 57)
    have M:Below w.heap.size w w5:=((Qaa p6 y).alloc (by omega) _).grown o (by simp;omega) (fun q hq=>(p3.lt q hq).1)
    have r1:=QdJ q1 p5 o
    have hA:=Qe5 q1 p5 (by simp) J
    have g1:=((p2.below y).below (Qab w1 (.cells #[.slice F rk.length I] 57))).grow q3 o
    have g2:=((p4.below y).below (Qab w1 (.cells #[.slice F rk.length I] 57))).grow q3 o
    have K:=(Qaf HU.out.1 y).alloc (.cells #[.slice F rk.length I] 57)
    have g3:=g2.snoc (K.kept o (Qch (by decide) K q3)) HU.out.2
    have HZ:=Hk (Ai A (Ai r1 (Ai hA (Ai g1 (Ai g3 M)))))
    clear A r1 hA g1 g2 g3 M o K q1 q3 p1 p2 p3 p4 p5 p6 J
    go_wp2
    go_roundw
    case rel=>
     obtain⟨z1,z2,z3,z4,z5,z6⟩:=HZ.out
     refine⟨k+1,E,D++[.slice F rk.length I],by omega,by go_num,?_,?_,?_,?_,z3,z6⟩
     ·rw[Z.out.1];simpa using z2
     ·rw[Z.out.1];simpa using z4
     ·rw[Z.out.2];simpa using z1
     ·rw[Z.out.2];simpa using z5
    case measure=>simp[intOf];omega
   ·rw[ht] at hT V O
    have HT:=Hk hT
    have Z:=Hk (Ai V O)
    clear hT V O ht
    go_wp2_with (first|(go_at_call 65;refine HT.out.mono ?_;rintro e w1 ⟨rfl,y⟩)|(at_builtin;refine wpList_append_own_at _ rfl _ _ 34 rfl w.heap.size 57 i0 (.slice none 0 0) 1 24 Tryz.underlying34 hi aO aH aK rfl (by decide) _ _ _ rfl ((Qaf N.out.1 y).alloc _) ⟨w1.heap.size,0,none⟩ 1 1 [.slice F rk.length I] rfl rfl (QbG _ _ _ _ rfl) (QbZ _ _ _) ?c3 ?c4 ?c5 ?_))
    case c3=>unfold maxLen;omega
    case c4=>omega
    case c5=>have:=y.size;simp;omega
    intro v' w5 A o _ J
    have a4:=y.size
    obtain⟨p1,p2,p3,p4,p5,p6⟩:=N.out
    have q1:=(Qaf p1 y).alloc (.cells #[.slice F rk.length I] 57)
    have q3:=(Qaf p3 y).alloc (.cells #[.slice F rk.length I] 57)
    have M:Below w.heap.size w w5:=((Qaa p6 y).alloc (by omega) _).grown o (by simp;omega) (fun q hq=>(p1.lt q hq).1)
    have r1:=QdJ q3 p5.symm o
    have hA:=(Qe5 q3 p5.symm (by simp) J).symm
    have g1:=((p4.below y).below (Qab w1 (.cells #[.slice F rk.length I] 57))).grow q1 o
    have g2:=((p2.below y).below (Qab w1 (.cells #[.slice F rk.length I] 57))).grow q1 o
    have K:=(Qaf HU.out.1 y).alloc (.cells #[.slice F rk.length I] 57)
    have g3:=g2.snoc (K.kept o (Qch (by decide) K q1)) HU.out.2
    have HZ:=Hk (Ai A (Ai r1 (Ai hA (Ai g1 (Ai g3 M)))))
    clear A r1 hA g1 g2 g3 M o K q1 q3 p1 p2 p3 p4 p5 p6 J
    go_wp2
    go_roundw
    case rel=>
     obtain⟨z1,z2,z3,z4,z5,z6⟩:=HZ.out
     refine⟨k+1,E++[.slice F rk.length I],D,by omega,by go_num,?_,?_,?_,?_,z3,z6⟩
     ·rw[Z.out.1];simpa using z1
     ·rw[Z.out.1];simpa using z5
     ·rw[Z.out.2];simpa using z2
     ·rw[Z.out.2];simpa using z4
    case measure=>simp[intOf];omega
  ·have a5:k=rs.length:=by omega
   subst a5
   simp only[List.take_length] at T af U ad⊢
   have N:=Hk (Ai T (Ai af (Ai U (Ai ad z))))
   clear T af U ad z aw
   go_wp2
   go_ret2
   exact⟨_,_,E,D,rfl,N.out.1,N.out.2.1,N.out.2.2.1,N.out.2.2.2.1,N.out.2.2.2.2⟩
abbrev Tb:=List Cl×List (List Vl)
def Qa0 (w:World) (b o:Nat) (ts:List Tb):Prop:=∀(j:Nat) (h:j<ts.length),∃vc vr,w.cell? ⟨b,o+j*2,none⟩=some vc/\w.cell? ⟨b,o+j*2+1,none⟩=some vr/\Qav w vc ts[j].1/\QaC w vr ts[j].2
theorem Qa0.below {w z:World} {b o:Nat} {ts:List Tb} (h:Qa0 w b o ts) (q:Below w.heap.size w z) (y:b<w.heap.size):Qa0 z b o ts:=fun j hj=>by
 obtain⟨D,A,E,I,B,F⟩:=h j hj
 exact⟨D,A,cK q y E,cK q y I,B.below q,F.below q⟩
def QaP (code:Int):Int×Int:=if code=5\/code=7 then(2,1) else if code=9 then(1,2) else if 1<=code/\code<=8 then(1,1) else(0,0)
theorem Qdo (code:Int) (w:World):
 Calls Tryz.prog 8 #[.int .i64 code] w fun e w'=>e=.returned (.tuple #[.int .i64 (QaP code).1,.int .i64 (QaP code).2])/\w'=w:=by
 by_cases h:1<=code/\code<=9
 ·have:code=1\/code=2\/code=3\/code=4\/code=5\/code=6\/code=7\/code=8\/code=9:=by omega
  clear h
  rcases this with h|h|h|h|h|h|h|h|h
  all_goals
   subst h
   go_enter Tryz.func8,Tryz.ntmps8
   go_wp2
   go_ret2
   exact⟨rfl,rfl⟩
 ·have E:¬(code=1):=by omega
  have A:¬(code=2):=by omega
  have B:¬(code=3):=by omega
  have z:¬(code=4):=by omega
  have y:¬(code=5):=by omega
  have F:¬(code=6):=by omega
  have q:¬(code=7):=by omega
  have D:¬(code=8):=by omega
  have o:¬(code=9):=by omega
  have j:QaP code=(0,0):=by
   unfold QaP
   rw[if_neg (by omega),if_neg o,if_neg (by omega)]
  rw[j]
  clear h j
  go_enter Tryz.func8,Tryz.ntmps8
  go_wp2
  go_ret2
  exact⟨rfl,rfl⟩
def QaI (cs:List Cl) (x:Ag):Int:=if x.1.data.toList=[] then(if rvB x.2=true then x.2.1 else 0) else match Qak cs x.1.data.toList with
 |some i=>if x.2.1=0/\x.2.2.1=0/\x.2.2.2.data.toList=[] then(cs[i]?.getD (⟨#[]⟩,0)).2 else 0
 |none=>0
theorem Qet (b o n c:Nat) (cs:List Cl) (x:Ag) (w:World) (K:cs.length=n) (T:n<=100) (V:b<w.heap.size) (B:Qas w b o cs) (U:x.2.2.2.size<=maxLen):
 Calls Tryz.prog 77 #[aggA x,.slice (some ⟨b,o,none⟩) n c] w fun e w'=>e=.returned (.int .i64 (QaI cs x))/\Below w.heap.size w w':=by
 by_cases h0:x.1.data.toList=[]
 ·have he:x.1.toList.isEmpty=true:=by rw[ByteArray.toList_eq,h0];rfl
  have y:QaI cs x=if rvB x.2=true then x.2.1 else 0:=by unfold QaI;rw[if_pos h0]
  have D:=fun W=>Qc9 x.2.1 x.2.2.1 x.2.2.2 W U
  rw[show Qat x.2.1 x.2.2.1 x.2.2.2.data.toList=rvB x.2 from rfl] at D
  cases g:rvB x.2
  ·rw[g] at D y
   have N:=Hk D
   rw[y]
   clear D y g h0 K B
   go_enter Tryz.func77,Tryz.ntmps77
   go_wp2_with (go_at_call 90;refine(N.out _).mono ?_;rintro e I ⟨rfl,j⟩)
   go_ret
   exact⟨rfl,Qaa (Qab _ _) j⟩
  ·rw[g] at D y
   have N:=Hk D
   rw[y]
   clear D y g h0 K B
   go_enter Tryz.func77,Tryz.ntmps77
   go_wp2_with (go_at_call 90;refine(N.out _).mono ?_;rintro e I ⟨rfl,j⟩;obtain⟨z,A⟩:=QbM j)
   go_ret
   exact⟨rfl,Qaa (Qab _ _) j⟩
 ·have he:x.1.toList.isEmpty=false:=by
   rw[ByteArray.toList_eq]
   cases h:x.1.data.toList with
   |nil=>exact absurd h h0
   |cons a q=>rfl
  have J:=fun W (O:Below w.heap.size w W)=>QaL b o n c cs x.1 W K T (by have:=O.size;omega) (B.below O V)
  cases g:Qak cs x.1.data.toList with
  |none=>
   have y:QaI cs x=0:=by unfold QaI;rw[if_neg h0,g]
   rw[show Qaq cs x.1.data.toList= -1 by rw[Qaq,g]] at J
   have F:=Hk J
   rw[y]
   clear J y g h0 K B
   go_enter Tryz.func77,Tryz.ntmps77
   go_wp2_with (go_at_call 54;refine(F.out _ (Qab _ _)).mono ?_;rintro e I ⟨rfl,j⟩;obtain⟨z,A⟩:=QbM j)
   go_ret
   exact⟨rfl,Qaa (Qab _ _) j⟩
  |some i=>
   have E:=Qaj g
   have y:QaI cs x=if x.2.1=0/\x.2.2.1=0/\x.2.2.2.data.toList=[] then cs[i].2 else 0:=by
    unfold QaI;rw[if_neg h0,g]
    simp only[List.getElem?_eq_getElem E,Option.getD_some]
   rw[show Qaq cs x.1.data.toList=(i:Int) by rw[Qaq,g]] at J
   have F:=Hk J
   have d1:=(B i E).1
   have d2:=(B i E).2
   have Z:(i:Int)<(n:Int):=by omega
   rw[y]
   clear J y g h0 B
   generalize M:cs[i]=ci at*
   clear M E K
   by_cases z1:x.2.1=0
   ·by_cases z2:x.2.2.1=0
    ·by_cases z3:x.2.2.2.data.toList=[]
     ·have z3':x.2.2.2.toList.isEmpty=true:=by rw[ByteArray.toList_eq,z3];rfl
      rw[if_pos ⟨z1,z2,z3⟩]
      clear z3
      go_enter Tryz.func77,Tryz.ntmps77
      go_wp2_with (go_at_call 54;refine(F.out _ (Qab _ _)).mono ?_;rintro e I ⟨rfl,j⟩;obtain⟨z,A⟩:=QbM j)
      go_ret
      exact⟨rfl,Qaa (Qab _ _) j⟩
     ·have z3':x.2.2.2.toList.isEmpty=false:=by
       rw[ByteArray.toList_eq]
       cases h:x.2.2.2.data.toList with
       |nil=>exact absurd h z3
       |cons a q=>rfl
      rw[if_neg (fun h=>z3 h.2.2)]
      clear z3
      go_enter Tryz.func77,Tryz.ntmps77
      go_wp2_with (go_at_call 54;refine(F.out _ (Qab _ _)).mono ?_;rintro e I ⟨rfl,j⟩;obtain⟨z,A⟩:=QbM j)
      go_ret
      exact⟨rfl,Qaa (Qab _ _) j⟩
    ·rw[if_neg (fun h=>z2 h.2.1)]
     have z2':(x.2.2.1==0)=false:=by simp[z2]
     go_enter Tryz.func77,Tryz.ntmps77
     go_wp2_with (go_at_call 54;refine(F.out _ (Qab _ _)).mono ?_;rintro e I ⟨rfl,j⟩;obtain⟨z,A⟩:=QbM j)
     go_ret
     exact⟨rfl,Qaa (Qab _ _) j⟩
   ·rw[if_neg (fun h=>z1 h.1)]
    have z1':(x.2.1==0)=false:=by simp[z1]
    go_enter Tryz.func77,Tryz.ntmps77
    go_wp2_with (go_at_call 54;refine(F.out _ (Qab _ _)).mono ?_;rintro e I ⟨rfl,j⟩;obtain⟨z,A⟩:=QbM j)
    go_ret
    exact⟨rfl,Qaa (Qab _ _) j⟩
end Go.Proofs.YtofidnijfnhpaaaGreatDoor
