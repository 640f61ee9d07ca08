import Derived.Lib.SliceRun
import Derived.Maps.AppendAt
import Derived.Test.YtjlgejennghhlaaGreatDoorQ01
import Derived.Test.YtjlgejennghhlaaGreatDoorQ05
set_option linter.unusedSimpArgs false
set_option linter.unusedVariables false
set_option linter.unusedSectionVars false
set_option maxRecDepth 1000000
set_option maxHeartbeats 16000000
namespace Go.Proofs.YtjlgejennghhlaaGreatDoor
open Go.RowKit
structure Jb where
 at_:Int
 code:Int
 outs:Value
 ins:Value
 cols:Value
 op:ByteArray
 left:Ag
 right:Ag
 retry:Int
def Jb.cells (j:Jb):Array Value:=#[.int .i64 j.at_,.int .i64 j.code,j.outs,j.ins,j.cols,.string j.op,.string j.left.1,.int .i64 j.left.2.1,.int .i64 j.left.2.2.1,.string j.left.2.2.2,.string j.right.1,.int .i64 j.right.2.1,.int .i64 j.right.2.2.1,.string j.right.2.2.2,.int .i64 j.retry]
abbrev aggA (x:Ag):Value:=.agg #[.string x.1,.int .i64 x.2.1,.int .i64 x.2.2.1,.string x.2.2.2]
def Qbm (cs:List Cl) (j:Jb) (r:List Vl):Bool:=Qly j.op.data.toList (QbX (Qb6 cs r j.left) (Qb6 cs r j.right)) (QbX (Qb6 cs r j.right) (Qb6 cs r j.left))
def QdQ (cs:List Cl) (x:Ag):Prop:=x.1.data.toList=[]\/∃i,Qaq cs x.1.data.toList=some i
def QaC (w:World) (jb:Nat) (j:Jb):Prop:=∀k v,j.cells[k]? =some v->w.cell? ⟨jb,k,none⟩=some v
theorem QaC.below {w w':World} {B y:Nat} {j:Jb} (h:QaC w y j) (F:Below B w w') (D:y<B):QaC w' y j:=fun k v hk=>(F.cell (p:=⟨y,k,none⟩) D).trans (h k v hk)
theorem QaC.lt {w:World} {y:Nat} {j:Jb} (h:QaC w y j):y<w.heap.size:=World.block_lt_of_cell? w _ (h 0 _ rfl)
theorem QiE (J K:Value) (cs:List Cl) (r:List Vl) (j:Jb) (h O:Nat) (w:World) (y:QaC w h j) (D:w.cell? ⟨O,0,none⟩=some K) (hc:Qax w K cs) (V:Qcw w J r) (h6:cs.length<=100) (U:r.length=cs.length) (F:QdQ cs j.left) (H:QdQ cs j.right):
 Calls Tryz.prog 139 #[J,.pointer (some ⟨h,0,none⟩),.pointer (some ⟨O,0,none⟩)] w fun e w'=>e=.returned (.bool (Qbm cs j r))/\Below w.heap.size w w':=by
 have e5:=cell_regrown (show w.cell? ⟨h,5,none⟩=some (.string j.op) from y 5 _ rfl);have e6:=cell_regrown (show w.cell? ⟨h,6,none⟩=some (.string j.left.1) from y 6 _ rfl);have e7:=cell_regrown (show w.cell? ⟨h,7,none⟩=some (.int .i64 j.left.2.1) from y 7 _ rfl);have e8:=cell_regrown (show w.cell? ⟨h,8,none⟩=some (.int .i64 j.left.2.2.1) from y 8 _ rfl);have e9:=cell_regrown (show w.cell? ⟨h,9,none⟩=some (.string j.left.2.2.2) from y 9 _ rfl);have ah:=cell_regrown (show w.cell? ⟨h,10,none⟩=some (.string j.right.1) from y 10 _ rfl);have ae:=cell_regrown (show w.cell? ⟨h,11,none⟩=some (.int .i64 j.right.2.1) from y 11 _ rfl);have ai:=cell_regrown (show w.cell? ⟨h,12,none⟩=some (.int .i64 j.right.2.2.1) from y 12 _ rfl);have ag:=cell_regrown (show w.cell? ⟨h,13,none⟩=some (.string j.right.2.2.2) from y 13 _ rfl);have ea:=cell_regrown D;have Z:∀(x:Ag) (hx:x=j.left\/x=j.right) d os,_:=fun x hx d os=>Calls.regrown_of (Qfu J K cs r x (Sort.grow (redrawn w d) os) (hc.below (below_regrown _ _ _)) (V.below (below_regrown _ _ _)) h6 U (by rcases hx with rfl|rfl;exact F;exact H))
 have N:∀(op:ByteArray) (a b:Vl) d os,_:=fun op a b d os=>Calls.regrown_of (Qlz op a b (Sort.grow (redrawn w d) os))
 obtain⟨a,c,rfl,-⟩:=hc;obtain⟨a',c',rfl,-⟩:=V;unfold Qbm;clear y D F H U h6;go_enter Tryz.func139,Tryz.ntmps139;go_wp2;refine wp_region_quiet_below (by kernel_rfl) (by kernel_rfl) ?_
 repeat(any_goals(first|go_big_quiet_step (first|(go_at_call 141;exact Z _ (by first|exact Or.inl rfl|exact Or.inr rfl) _ _)|(go_at_call 140;exact N _ _ _ _ _))|quiet_step (first|(go_at_call 141;exact Z _ (by first|exact Or.inl rfl|exact Or.inr rfl) _ _)|(go_at_call 140;exact N _ _ _ _ _))))
 refine wpQuiet_nil ?_;intro _ M;obtain⟨⟨dq,af⟩,I⟩:=M;subst I;go_wp2;go_ret;exact⟨rfl,below_regrown _ _ _⟩
def Qab (w:World) (B:Nat) (us:List Value) (rs:List (List Vl)):Prop:=
 us.length=rs.length/\∀(j:Nat) (h:j<us.length) (h':j<rs.length),w.ownsRow B 46 3 us[j] rs[j].length (Qag rs[j])/\∀x∈rs[j],x.2.2.size<=maxLen
theorem Qab.below {w w':World} {B:Nat} {us:List Value} {rs:List (List Vl)} (h:Qab w B us rs) (y:Below w.heap.size w w'):Qab w' B us rs:=
 ⟨h.1,fun j hj hj'=>⟨owns_below (h.2 j hj hj').1 y,(h.2 j hj hj').2⟩⟩
theorem Qab.mono {w:World} {B B':Nat} {us:List Value} {rs:List (List Vl)} (h:Qab w B us rs) (y:B'<=B):Qab w B' us rs:=
 ⟨h.1,fun j hj hj'=>⟨own_mono y (h.2 j hj hj').1,(h.2 j hj hj').2⟩⟩
theorem Qab.grow {w w':World} {B B':Nat} {us:List Value} {rs:List (List Vl)} {v:Value} {n:Nat} {xs:List Value} (h:Qab w B us rs) (y:w.ownsRow B' 84 1 v n xs) (D:w.grownBy w' v.ownBlock):Qab w' B us rs:=
 ⟨h.1,fun j hj hj'=>⟨(h.2 j hj hj').1.kept D (Qb2 (by decide) (h.2 j hj hj').1 y),(h.2 j hj hj').2⟩⟩
theorem Qab.snoc {w:World} {B:Nat} {us:List Value} {rs:List (List Vl)} {u:Value} {r:List Vl} (h:Qab w B us rs) (I:w.ownsRow B 46 3 u r.length (Qag r)) (H:∀x∈r,x.2.2.size<=maxLen):Qab w B (us++[u]) (rs++[r]):=by
 refine⟨by simp[h.1],fun j hj hj'=>?_⟩
 by_cases y:j<us.length
 ·have hlt':j<rs.length:=by rw[<-h.1];exact y
  simp only[List.getElem_append_left y,List.getElem_append_left hlt'];exact h.2 j y hlt'
 ·have D:j=us.length:=by rw[List.length_append] at hj;simp at hj;omega
  subst D;have F:(us++[u])[us.length]=u:=by simp
  have J:(rs++[r])[us.length]'(by rw[h.1];simp)=r:=by simp[h.1]
  rw[F];simp only[J];exact⟨I,H⟩
theorem Qab.nil (w:World) (B:Nat):Qab w B [] []:=⟨rfl,fun j hj=>absurd hj (by simp)⟩
theorem QbT {w:World} {B B':Nat} {v:Value} {us:List Value} {rs:List (List Vl)} (H:w.ownsRow B 84 1 v rs.length us) (y:Qab w B' us rs):QaG w v rs:=by
 have I:=H;obtain⟨K,⟨rfl,D⟩|⟨g,F,J,rfl,O,N,D,M,_,_⟩⟩:=H
 ·exact⟨none,0,by rw[D],Or.inl (List.length_eq_zero_iff.1 D)⟩
 ·refine⟨some ⟨g,0,none⟩,F,rfl,Or.inr ⟨g,0,rfl,(I.lt g rfl).2,fun j hj=>?_⟩⟩;have h:j<us.length:=by rw[y.1];exact hj
  refine⟨us[j],?_,QbB (y.2 j h hj).1 (y.2 j h hj).2⟩;have e:=I.cellAt j (by omega);rw[show 0+j=j by omega,e,List.getElem?_eq_getElem h]
theorem QbU (h:List Vl):(Qag h).length=h.length*3:=by
 induction h with
 |nil=>rfl
 |cons c r ih=>simp only[Qag,List.flatMap_cons,List.length_append,List.length_cons,List.length_nil] at ih⊢;omega
theorem Qcm (y:List Vl):∀u∈Qag y,u.oneCell'=true:=by
 intro u h;rw[Qag,List.mem_flatMap] at h;obtain⟨x,-,h⟩:=h;simp at h;rcases h with rfl|rfl|rfl<;>rfl
theorem QdR {w:World} {b o:Nat} {D:List Vl} (h:QaR w b o D) (j:Nat) (u:Value) (y:(Qag D)[j]? =some u):w.cell? ((⟨b,o,none⟩:Addr).add j)=some u:=by
 have I:j<(Qag D).length:=(List.getElem?_eq_some_iff.1 y).1;rw[QbU] at I;have H:=QcM D (j/3) (by omega);have F:=h (j/3) (by omega);rw[Addr.add_mid];rcases(show j=j/3*3\/j=j/3*3+1\/j=j/3*3+2 by omega) with e|e|e
 ·rw[e] at y⊢;rw[H.1] at y;injection y with y;subst y;have:(j/3*3)/3*3=j/3*3:=by omega
  simpa [this] using F.1
 ·rw[e] at y⊢;rw[H.2.1] at y;injection y with y;subst y;have:=F.2.1;rw[Nat.add_assoc] at this;exact this
 ·rw[e] at y⊢;rw[H.2.2] at y;injection y with y;subst y;have:=F.2.2;rw[Nat.add_assoc] at this;exact this
theorem Qhz (w:World) (e:TypeId) (z B:Nat) (h:B<=w.heap.size):(w.alloc (.cells #[] e)).ownsRow B e z (.slice (some ⟨w.heap.size,0,none⟩) 0 0) 0 []:=
 ⟨by simp,Or.inr ⟨w.heap.size,0,#[],rfl,h,by show(w.heap.push _)[w.heap.size]? =_;simp,Nat.le_refl _,by unfold maxLen;omega,by simp,by simp⟩⟩
theorem QiF (b o n c:Nat) (D:List Vl) (w:World) (N:D.length=n) (af:n<=100) (V:b<w.heap.size) (O:QaR w b o D):
 Calls Tryz.prog 103 #[.slice (some ⟨b,o,none⟩) n c] w fun e w'=>∃v,e=.returned v/\w'.ownsRow w.heap.size 46 3 v n (Qag D)/\Below w.heap.size w w':=by
 obtain⟨Z,hi,J,K,M⟩:=info_parts Tryz.infoVal;have HN:=Hk N;have HV:=Hk O;clear N O;have ae:∀(w:World) (a:Option Addr) (n c F H:Nat),(binOp .eql 84 (.slice a n c) (.slice none F H)).run Tryz.prog w=.ok (.bool a.isNone) w:=fun w a n c F H=>Lib.run_eql_slice_nil w _ _ a n c F H Tryz.underlying84
 go_enter Tryz.func103,Tryz.ntmps103;go_wp2_with (at_builtin;refine wpList_append_own _ rfl _ _ 84 rfl w.heap.size 46 Z (.agg #[.int .i64 0,.int .i64 0,.string ⟨#[]⟩]) 3 32 Tryz.underlying84 hi J K M rfl (by decide) _ _ _ rfl (Qhz w _ _ _ (Nat.le_refl _)) ⟨b,o,none⟩ n c (Qag D) rfl ?c0 (QdR (HV.out.below (Qaa _ _) V)) (Qcm D) ?c3 ?c4 ?c5 ?_)
 case c0=>rw[QbU,HN.out]
 case c3=>unfold maxLen;omega
 case c4=>omega
 case c5=>simp
 intro v' U h y _;have I:Below w.heap.size w U:=(Qaa w _).grown y (by simp) (fun q hq=>by simp[Value.ownBlock] at hq;omega);have HO:=Hk h;clear h y;go_wp2;go_ret;exact⟨_,rfl,HO.out,I⟩
theorem Qcn (y:List Cl):∀u∈Qak y,u.oneCell'=true:=by
 intro u h;rw[Qak,List.mem_flatMap] at h;obtain⟨x,-,h⟩:=h;simp at h;rcases h with rfl|rfl<;>rfl
theorem QdS {w:World} {b o:Nat} {D:List Cl} (h:Qau w b o D) (j:Nat) (u:Value) (y:(Qak D)[j]? =some u):w.cell? ((⟨b,o,none⟩:Addr).add j)=some u:=by
 have H:j<(Qak D).length:=(List.getElem?_eq_some_iff.1 y).1;rw[QeG] at H;have I:=QdE D (j/2) (by omega);have F:=h (j/2) (by omega);rw[Addr.add_mid];rcases(show j=j/2*2\/j=j/2*2+1 by omega) with e|e
 ·rw[e] at y⊢;rw[I.1] at y;injection y with y;subst y;have:(j/2*2)/2*2=j/2*2:=by omega
  simpa [this] using F.1
 ·rw[e] at y⊢;rw[I.2] at y;injection y with y;subst y;have:=F.2;rw[Nat.add_assoc] at this;exact this
theorem QdF (b o n c:Nat) (D:List Cl) (w:World) (N:D.length=n) (af:n<=100) (V:b<w.heap.size) (O:Qau w b o D):
 Calls Tryz.prog 58 #[.slice (some ⟨b,o,none⟩) n c] w fun e w'=>∃v,e=.returned v/\w'.ownsRow w.heap.size 64 2 v n (Qak D)/\Below w.heap.size w w':=by
 obtain⟨Z,hi,J,K,M⟩:=info_parts Tryz.infoCol;have HN:=Hk N;have HV:=Hk O;clear N O;have ae:∀(w:World) (a:Option Addr) (n c F H:Nat),(binOp .eql 51 (.slice a n c) (.slice none F H)).run Tryz.prog w=.ok (.bool a.isNone) w:=fun w a n c F H=>Lib.run_eql_slice_nil w _ _ a n c F H Tryz.underlying51
 go_enter Tryz.func58,Tryz.ntmps58;go_wp2_with (at_builtin;refine wpList_append_own _ rfl _ _ 51 rfl w.heap.size 64 Z (.agg #[.string ⟨#[]⟩,.int .i64 0]) 2 24 Tryz.underlying51 hi J K M rfl (by decide) _ _ _ rfl (Qhz w _ _ _ (Nat.le_refl _)) ⟨b,o,none⟩ n c (Qak D) rfl ?c0 (QdS (HV.out.below (Qaa _ _) V)) (Qcn D) ?c3 ?c4 ?c5 ?_)
 case c0=>rw[QeG,HN.out]
 case c3=>unfold maxLen;omega
 case c4=>omega
 case c5=>simp
 intro v' U h y _;have I:Below w.heap.size w U:=(Qaa w _).grown y (by simp) (fun q hq=>by simp[Value.ownBlock] at hq;omega);have HO:=Hk h;clear h y;go_wp2;go_ret;exact⟨_,rfl,HO.out,I⟩
theorem QhA (v:Value) (cs:List Cl) (w:World) (h:Qax w v cs) (y:1<=cs.length) (F:cs.length<=100):
 Calls Tryz.prog 58 #[v] w fun e w'=>∃v',e=.returned v'/\w'.ownsRow w.heap.size 64 2 v' cs.length (Qak cs)/\Below w.heap.size w w':=by
 obtain⟨a,c,rfl,J,I,h⟩:=h;rcases h with h|⟨b,o,rfl,H,D⟩
 ·rw[h] at y;simp at y
 ·exact QdF b o cs.length c cs w rfl F H D
theorem Qdb (v:Value) (y:List Vl) (w:World) (h:Qcw w v y) (D:1<=y.length) (H:y.length<=100):
 Calls Tryz.prog 103 #[v] w fun e w'=>∃v',e=.returned v'/\w'.ownsRow w.heap.size 46 3 v' y.length (Qag y)/\Below w.heap.size w w':=by
 obtain⟨a,c,rfl,J,h⟩:=h;rcases h with h|⟨b,o,rfl,I,F⟩
 ·rw[h] at D;simp at D
 ·exact QiF b o y.length c y w rfl H I F
theorem own_slice {w:World} {B:Nat} {e:TypeId} {z:Nat} {v:Value} {n:Nat} {xs:List Value} (h:w.ownsRow B e z v n xs):∃a c,v=.slice a n c:=by
 obtain⟨-,⟨rfl,y⟩|⟨g,F,D,rfl,-⟩⟩:=h
 ·exact⟨none,0,by rw[y]⟩
 ·exact⟨_,_,rfl⟩
theorem news1 (w:World) (v:Value) (t:TypeId) (H:Nat) (y:w.heap.size=H):∀j u,[v][j]? =some u->(w.alloc (.cells #[v] t)).cell? ((⟨H,0,none⟩:Addr).add j)=some u:=by
 intro j u h
 match j,h with
 |0,h=>simp at h;subst h;subst y;simp[Addr.add]
theorem Qc2 (a:Option Addr) (n c:Nat):∀u∈[Value.slice a n c],u.oneCell'=true:=by intro u h;simp at h;subst h;rfl
theorem QgN {w:World} {v:Value} {rs:List (List Vl)} (h:QaG w v rs) (y:0<rs.length):∃b o c,v=.slice (some ⟨b,o,none⟩) rs.length c/\b<w.heap.size/\Qdx w b o rs:=by
 obtain⟨a,c,rfl,h⟩:=h;rcases h with h|⟨b,o,rfl,F,D⟩
 ·rw[h] at y;simp at y
 ·exact⟨b,o,c,rfl,F,D⟩
theorem row_slice {w:World} {u:Value} {r:List Vl} (h:Qcw w u r):∃a c,u=.slice a r.length c:=by
 obtain⟨a,c,rfl,-⟩:=h;exact⟨a,c,rfl⟩
theorem Qa0 (v:Value) (rs:List (List Vl)) (m:Nat) (w:World) (hr:QaG w v rs) (hl:∀r∈rs,r.length=m) (h1:1<=m) (h6:m<=100) (aH:rs.length<=100):
 Calls Tryz.prog 137 #[v] w fun e w'=>∃v' us,e=.returned v'/\w'.ownsRow w.heap.size 84 1 v' rs.length us/\Qab w' w.heap.size us rs/\Below w.heap.size w w':=by
 obtain⟨i0,hi,ao,ap,ar⟩:=info_parts Tryz.infoRow;have HR:=Hk hr;have HL:=Hk hl;clear hl;obtain⟨va,aK,rfl,-⟩:=hr;go_enter Tryz.func137,Tryz.ntmps137;go_wp2;go_loopw [3,8] (fun l i wr=>∃(k:Nat) (us:List Value),k<=rs.length/\i=.int .i64 k/\wr.ownsRow w.heap.size 84 1 l k us/\Qab wr w.heap.size us (rs.take k)/\Below w.heap.size w wr) (fun _ i _=>rs.length-(intOf i).toNat)
 case atStart=>exact⟨0,[],Nat.zero_le _,rfl,World.ownsRow_nil _ _ _ _,Qab.nil _ _,Below.refl _ _⟩
 case round=>
  obtain⟨k,us,hk,rfl,D,h,F⟩:=hrel;obtain⟨la,lc,rfl⟩:=own_slice D;have I:=Hk (Ai D h);have HX:=Hk F;have aI:=F.size
  by_cases hlt:k<rs.length
  ·obtain⟨b,o,c,aa,al,ae⟩:=QgN HR.out (by omega);simp only[Value.slice.injEq,true_and] at aa;obtain⟨rfl,rfl⟩:=aa;obtain⟨u,hu,M⟩:=ae k hlt;have cu:=cK F al hu;have ac:=M.below F;obtain⟨ua,uc,rfl⟩:=row_slice M;have ah:=HL.out _ (List.getElem_mem hlt);have ab:=Qdb _ _ wr ac (by omega) (by omega);have ag:∀x∈rs[k],x.2.2.size<=maxLen:=by obtain⟨_,_,_,hs,_⟩:=M;exact hs
   have HC:=Hk ab;have HS:=Hk (Ai ag ah);clear ab ae hu M ac F D h ag ah;generalize ad:rs[k]=rk at*;have aw:=Hk ad;clear ad;go_wp2_with (first|(go_at_call 103;refine HC.out.mono ?_;rintro e w1 ⟨v1,rfl,V,H⟩;obtain⟨N,J,rfl⟩:=own_slice V)|(at_builtin;refine wpList_append_own _ rfl _ _ 52 rfl w.heap.size 84 i0 (.slice none 0 0) 1 24 Tryz.underlying52 hi ao ap ar rfl (by decide) _ _ _ rfl ((owns_below I.out.1 H).alloc _) ⟨w1.heap.size,0,none⟩ 1 1 [.slice N rk.length J] rfl rfl (news1 _ _ _ _ rfl) (Qc2 _ _ _) ?c3 ?c4 ?c5 ?_))
   case c3=>unfold maxLen;omega
   case c4=>omega
   case c5=>have:=H.size;simp;omega
   intro v' w5 K y _;have aJ:=H.size;have U:Below w.heap.size w w5:=((bel_then HX.out H).alloc (by omega) _).grown y (by simp;omega) (fun q hq=>(I.out.1.lt q hq).1);have O:=((owns_below I.out.1 H).alloc (.cells #[.slice N rk.length J] 84));have ai:=((I.out.2.below H).below (Qaa w1 (.cells #[.slice N rk.length J] 84))).grow O y;have af:=(V.alloc (.cells #[.slice N rk.length J] 84)).kept y (Qb2 (by decide) (V.alloc _) O);have Z:=ai.snoc (own_mono (by omega) af) HS.out.1;rw[show rs.take k++[rk]=rs.take (k+1) by rw[List.take_succ_eq_append_getElem hlt,aw.out]] at Z;have HF:=Hk (Ai K (Ai Z U));clear K y Z U ai af O;go_wp2;go_roundw
   case rel=>exact⟨k+1,_,by omega,by go_num,HF.out.1,HF.out.2.1,HF.out.2.2⟩
   case measure=>simp[intOf];omega
  ·have aq:k=rs.length:=by omega
   subst aq;rw[List.take_of_length_le (Nat.le_refl _)] at h;clear I;have I:=Hk (Ai D h);clear D h F;go_wp2;go_ret;exact⟨_,us,rfl,I.out.1,I.out.2,HX.out⟩
theorem QlA {w:World} {B J:Nat} {v:Value} {us:List Value} {rs:List (List Vl)} (y:w.ownsRow J 84 1 v rs.length us) (D:Qab w B us rs) (k:Nat) (h:k<rs.length):
 ∃g c u,v=.slice (some ⟨g,0,none⟩) rs.length c/\g<w.heap.size/\w.cell? ⟨g,k,none⟩=some u/\w.ownsRow B 46 3 u rs[k].length (Qag rs[k])/\∀x∈rs[k],x.2.2.size<=maxLen:=by
 have I:=y;obtain⟨-,⟨rfl,K⟩|⟨g,F,M,rfl,U,O,K,N,_,_⟩⟩:=y
 ·omega
 ·have H:k<us.length:=by rw[D.1];exact h
  refine⟨g,F,us[k],rfl,(I.lt g rfl).2,?_,D.2 k H h⟩;have e:=I.cellAt k (by omega);rw[e,List.getElem?_eq_getElem H]
def Apart (u v:Value):Prop:=∀b,u.ownBlock=some b->v.ownBlock=some b->False
theorem Qgo {w w':World} {B:Nat} {v u:Value} {e:TypeId} {z k:Nat} {y:List Value} (H:w.ownsRow B e z u k y) (F:Apart u v) (D:w.grownBy w' v.ownBlock):w'.ownsRow B e z u k y:=by
 refine H.kept D ?_
 cases h:u.ownBlock with
 |none=>exact Or.inl rfl
 |some b=>exact Or.inr (fun e=>F b h e.symm)
theorem Qgp {w:World} {B:Nat} {v D u:Value} {e:TypeId} {z k:Nat} {J:List Value} (N:w.ownsRow B e z u k J) (K:Apart u v) {H:Nat} (M:w.heap.size=H) (I:D.ownBlock=v.ownBlock\/D.ownBlock=some H):Apart u D:=by
 subst M;intro b F y;rcases I with h|h
 ·exact K b F (by rw[<-h];exact y)
 ·have:=(N.lt b F).2;rw[h] at y;injection y with y;omega
theorem Apart.symm {u v:Value} (h:Apart u v):Apart v u:=fun b h1 h2=>h b h2 h1
theorem Qfv {α:Type} (p:α->Bool) (l:List α) (k:Nat) (h:k<l.length):(l.take (k+1)).filter p=(l.take k).filter p++(if p l[k] then[l[k]] else[]):=by
 rw[List.take_succ_eq_append_getElem h,List.filter_append];simp only[List.filter_cons,List.filter_nil]
theorem Qkg (v vc:Value) (cs:List Cl) (rs:List (List Vl)) (us:List Value) (j:Jb) (jb ab B:Nat) (w:World) (hv:w.ownsRow B 84 1 v rs.length us) (hH:Qab w B us rs) (hB:B<=w.heap.size)
 (hj:QaC w jb j) (ai:w.cell? ⟨ab,0,none⟩=some vc) (aW:ab<w.heap.size) (hc:Qax w vc cs) (h6:cs.length<=100) (hl:∀r∈rs,r.length=cs.length) (bm:rs.length<=100) (aP:QdQ cs j.left) (aM:QdQ cs j.right):
 Calls Tryz.prog 138 #[v,.func (.func 139) #[] #[.pointer (some ⟨jb,0,none⟩),.pointer (some ⟨ab,0,none⟩)]] w fun e w'=>∃v1 v2 K J,e=.returned (.tuple #[v1,v2])/\w'.ownsRow w.heap.size 84 1 v1 (rs.filter (Qbm cs j)).length K/\Qab w' B K (rs.filter (Qbm cs j))/\w'.ownsRow w.heap.size 84 1 v2 (rs.filter (fun r=> !Qbm cs j r)).length J/\Qab w' B J (rs.filter (fun r=> !Qbm cs j r))/\Below w.heap.size w w':=by
 obtain⟨i0,hi,aL,aR,aO⟩:=info_parts Tryz.infoRow;have HV:=Hk (Ai hv (Ai hH hl));have HJ:=Hk (Ai hj (Ai ai hc));have aN:=Hk (Ai aP aM);have a9:=hj.lt;obtain⟨va,bn,rfl⟩:=own_slice hv;clear hv hH hl hj ai hc aP aM;go_enter Tryz.func138,Tryz.ntmps138;go_wp2;go_loopw [4,5,10] (fun l1 l2 i wr=>∃(k:Nat) (K J:List Value),k<=rs.length/\i=.int .i64 k/\wr.ownsRow w.heap.size 84 1 l1 ((rs.take k).filter (Qbm cs j)).length K/\Qab wr B K ((rs.take k).filter (Qbm cs j))/\wr.ownsRow w.heap.size 84 1 l2 ((rs.take k).filter (fun r=> !Qbm cs j r)).length J/\Qab wr B J ((rs.take k).filter (fun r=> !Qbm cs j r))/\Apart l1 l2/\Below w.heap.size w wr) (fun _ _ i _=>rs.length-(intOf i).toNat)
 case atStart=>exact⟨0,[],[],Nat.zero_le _,rfl,World.ownsRow_nil _ _ _ _,Qab.nil _ _,World.ownsRow_nil _ _ _ _,Qab.nil _ _,fun b h=>by simp[Value.ownBlock] at h,Below.refl _ _⟩
 case round=>
  obtain⟨k,K,J,hk,rfl,aa,af,Z,ah,aA,F⟩:=hrel;obtain⟨bk,bq,rfl⟩:=own_slice aa;obtain⟨br,bp,rfl⟩:=own_slice Z;have bo:=F.size
  by_cases hlt:k<rs.length
  ·obtain⟨hv,hH,hl⟩:=HV.out;obtain⟨g,c,u,aK,a6,aQ,aC,aG⟩:=QlA hv hH k hlt;simp only[Value.slice.injEq,true_and] at aK;obtain⟨rfl,rfl⟩:=aK;have cu:=cK F a6 aQ;have huo':=owns_below aC F;obtain⟨hj,ai,hc⟩:=HJ.out;have hT:=QiE u vc cs rs[k] j jb ab wr (hj.below F a9) (cK F aW ai) (hc.below F) (QbB huo' aG) h6 (hl _ (List.getElem_mem hlt)) aN.out.1 aN.out.2;have ad:=Qfv (Qbm cs j) rs k hlt;have ac:=Qfv (fun r=> !Qbm cs j r) rs k hlt;have bg:((rs.take k).filter (Qbm cs j)).length<=100:=Nat.le_trans (List.length_filter_le _ _) (by rw[List.length_take];omega);have bf:((rs.take k).filter (fun r=> !Qbm cs j r)).length<=100:=Nat.le_trans (List.length_filter_le _ _) (by rw[List.length_take];omega);obtain⟨H,I,rfl⟩:=own_slice aC;have HU:=Hk (Ai huo' aG);have V:=Hk (Ai aa (Ai af (Ai Z (Ai ah (Ai aA F)))));clear aa af Z ah aA hv hH hl hj ai hc aC huo' aG aQ F;generalize a5:rs[k]=rk at*;clear a5;generalize a4:(rs.take k).filter (Qbm cs j)=f1 at*;generalize be:(rs.take k).filter (fun r=> !Qbm cs j r)=f2 at*;clear a4 be
   cases ht:Qbm cs j rk
   ·rw[ht] at hT ad ac;have HT:=Hk hT;have HF:=Hk (Ai ad ac);clear hT ad ac ht;go_wp2_with (first|(go_at_call 139;refine HT.out.mono ?_;rintro e w1 ⟨rfl,D⟩)|(at_builtin;refine wpList_append_own_at _ rfl _ _ 52 rfl w.heap.size 84 i0 (.slice none 0 0) 1 24 Tryz.underlying52 hi aL aR aO rfl (by decide) _ _ _ rfl ((owns_below V.out.2.2.1 D).alloc _) ⟨w1.heap.size,0,none⟩ 1 1 [.slice H rk.length I] rfl rfl (news1 _ _ _ _ rfl) (Qc2 _ _ _) ?c3 ?c4 ?c5 ?_))
    case c3=>unfold maxLen;omega
    case c4=>omega
    case c5=>have:=D.size;simp;omega
    intro v' w5 M y _ O;have bb:=D.size;obtain⟨p1,p2,p3,p4,p5,p6⟩:=V.out;have q1:=(owns_below p1 D).alloc (.cells #[.slice H rk.length I] 84);have q3:=(owns_below p3 D).alloc (.cells #[.slice H rk.length I] 84);have N:Below w.heap.size w w5:=((bel_then p6 D).alloc (by omega) _).grown y (by simp;omega) (fun q hq=>(p3.lt q hq).1);have r1:=Qgo q1 p5 y;have hA:=Qgp q1 p5 (by simp) O;have g1:=((p2.below D).below (Qaa w1 (.cells #[.slice H rk.length I] 84))).grow q3 y;have g2:=((p4.below D).below (Qaa w1 (.cells #[.slice H rk.length I] 84))).grow q3 y;have U:=(owns_below HU.out.1 D).alloc (.cells #[.slice H rk.length I] 84);have g3:=g2.snoc (U.kept y (Qb2 (by decide) U q3)) HU.out.2;have HZ:=Hk (Ai M (Ai r1 (Ai hA (Ai g1 (Ai g3 N)))));clear M r1 hA g1 g2 g3 N y U q1 q3 p1 p2 p3 p4 p5 p6 O;go_wp2;go_roundw
    case rel=>
     obtain⟨z1,z2,z3,z4,z5,z6⟩:=HZ.out;refine⟨k+1,K,J++[.slice H rk.length I],by omega,by go_num,?_,?_,?_,?_,z3,z6⟩
     ·rw[HF.out.1];simpa using z2
     ·rw[HF.out.1];simpa using z4
     ·rw[HF.out.2];simpa using z1
     ·rw[HF.out.2];simpa using z5
    case measure=>simp[intOf];omega
   ·rw[ht] at hT ad ac;have HT:=Hk hT;have HF:=Hk (Ai ad ac);clear hT ad ac ht;go_wp2_with (first|(go_at_call 139;refine HT.out.mono ?_;rintro e w1 ⟨rfl,D⟩)|(at_builtin;refine wpList_append_own_at _ rfl _ _ 52 rfl w.heap.size 84 i0 (.slice none 0 0) 1 24 Tryz.underlying52 hi aL aR aO rfl (by decide) _ _ _ rfl ((owns_below V.out.1 D).alloc _) ⟨w1.heap.size,0,none⟩ 1 1 [.slice H rk.length I] rfl rfl (news1 _ _ _ _ rfl) (Qc2 _ _ _) ?c3 ?c4 ?c5 ?_))
    case c3=>unfold maxLen;omega
    case c4=>omega
    case c5=>have:=D.size;simp;omega
    intro v' w5 M y _ O;have bb:=D.size;obtain⟨p1,p2,p3,p4,p5,p6⟩:=V.out;have q1:=(owns_below p1 D).alloc (.cells #[.slice H rk.length I] 84);have q3:=(owns_below p3 D).alloc (.cells #[.slice H rk.length I] 84);have N:Below w.heap.size w w5:=((bel_then p6 D).alloc (by omega) _).grown y (by simp;omega) (fun q hq=>(p1.lt q hq).1);have r1:=Qgo q3 p5.symm y;have hA:=(Qgp q3 p5.symm (by simp) O).symm;have g1:=((p4.below D).below (Qaa w1 (.cells #[.slice H rk.length I] 84))).grow q1 y;have g2:=((p2.below D).below (Qaa w1 (.cells #[.slice H rk.length I] 84))).grow q1 y;have U:=(owns_below HU.out.1 D).alloc (.cells #[.slice H rk.length I] 84);have g3:=g2.snoc (U.kept y (Qb2 (by decide) U q1)) HU.out.2;have HZ:=Hk (Ai M (Ai r1 (Ai hA (Ai g1 (Ai g3 N)))));clear M r1 hA g1 g2 g3 N y U q1 q3 p1 p2 p3 p4 p5 p6 O;go_wp2;go_roundw
    case rel=>
     obtain⟨z1,z2,z3,z4,z5,z6⟩:=HZ.out;refine⟨k+1,K++[.slice H rk.length I],J,by omega,by go_num,?_,?_,?_,?_,z3,z6⟩
     ·rw[HF.out.1];simpa using z1
     ·rw[HF.out.1];simpa using z5
     ·rw[HF.out.2];simpa using z2
     ·rw[HF.out.2];simpa using z4
    case measure=>simp[intOf];omega
  ·have a7:k=rs.length:=by omega
   subst a7;simp only[List.take_length] at aa af Z ah⊢;have V:=Hk (Ai aa (Ai af (Ai Z (Ai ah F))));clear aa af Z ah F aA;go_wp2
   go_ret2
   exact⟨_,_,K,J,rfl,V.out.1,V.out.2.1,V.out.2.2.1,V.out.2.2.2.1,V.out.2.2.2.2⟩
abbrev Tb:=List Cl×List (List Vl)
def QaX (w:World) (b o:Nat) (ts:List Tb):Prop:=∀(j:Nat) (h:j<ts.length),∃vc vr,w.cell? ⟨b,o+j*2,none⟩=some vc/\w.cell? ⟨b,o+j*2+1,none⟩=some vr/\Qax w vc ts[j].1/\QaG w vr ts[j].2
theorem QaX.below {w w':World} {b o:Nat} {ts:List Tb} (h:QaX w b o ts) (y:Below w.heap.size w w') (D:b<w.heap.size):QaX w' b o ts:=fun j hj=>by
 obtain⟨F,K,J,H,M,I⟩:=h j hj;exact⟨F,K,cK y D J,cK y D H,M.below y,I.below y⟩
def Qa1 (code:Int):Int×Int:=if code=5\/code=7 then(2,1) else if code=9 then(1,2) else if 1<=code/\code<=8 then(1,1) else(0,0)
theorem Qfw (code:Int) (w:World):
 Calls Tryz.prog 95 #[.int .i64 code] w fun e w'=>e=.returned (.tuple #[.int .i64 (Qa1 code).1,.int .i64 (Qa1 code).2])/\w'=w:=by
 by_cases h:1<=code/\code<=9
 ·have:code=1\/code=2\/code=3\/code=4\/code=5\/code=6\/code=7\/code=8\/code=9:=by omega
  clear h;rcases this with h|h|h|h|h|h|h|h|h
  all_goals
   subst h;go_enter Tryz.func95,Tryz.ntmps95;go_wp2
   go_ret2
   exact⟨rfl,rfl⟩
 ·have H:¬(code=1):=by omega
  have O:¬(code=2):=by omega
  have I:¬(code=3):=by omega
  have K:¬(code=4):=by omega
  have F:¬(code=5):=by omega
  have J:¬(code=6):=by omega
  have M:¬(code=7):=by omega
  have N:¬(code=8):=by omega
  have D:¬(code=9):=by omega
  have y:Qa1 code=(0,0):=by
   unfold Qa1;rw[if_neg (by omega),if_neg D,if_neg (by omega)]
  rw[y];clear h y;go_enter Tryz.func95,Tryz.ntmps95;go_wp2
  go_ret2
  exact⟨rfl,rfl⟩
def QbY (cs:List Cl) (x:Ag):Int:=if x.1.data.toList=[] then(if rvB x.2=true then x.2.1 else 0) else match Qaq cs x.1.data.toList with
 |some i=>if x.2.1=0/\x.2.2.1=0/\x.2.2.2.data.toList=[] then(cs[i]?.getD (⟨#[]⟩,0)).2 else 0
 |none=>0
theorem Qfx (b o n c:Nat) (cs:List Cl) (x:Ag) (w:World) (V:cs.length=n) (ae:n<=100) (hb:b<w.heap.size) (J:Qau w b o cs) (hx:x.2.2.2.size<=maxLen):
 Calls Tryz.prog 167 #[aggA x,.slice (some ⟨b,o,none⟩) n c] w fun e w'=>e=.returned (.int .i64 (QbY cs x))/\Below w.heap.size w w':=by
 by_cases h0:x.1.data.toList=[]
 ·have he:x.1.toList.isEmpty=true:=by rw[ByteArray.toList_eq,h0];rfl
  have D:QbY cs x=if rvB x.2=true then x.2.1 else 0:=by unfold QbY;rw[if_pos h0]
  have I:=fun W=>Qba x.2.1 x.2.2.1 x.2.2.2 W hx
  rw[show Qao x.2.1 x.2.2.1 x.2.2.2.data.toList=rvB x.2 from rfl] at I
  cases g:rvB x.2
  ·rw[g] at I D;have HR:=Hk I;rw[D];clear I D g h0 V J;go_enter Tryz.func167,Tryz.ntmps167;go_wp2_with (go_at_call 65;refine(HR.out _).mono ?_;rintro e M ⟨rfl,y⟩);go_ret;exact⟨rfl,bel_then (Qaa _ _) y⟩
  ·rw[g] at I D;have HR:=Hk I;rw[D];clear I D g h0 V J;go_enter Tryz.func167,Tryz.ntmps167;go_wp2_with (go_at_call 65;refine(HR.out _).mono ?_;rintro e M ⟨rfl,y⟩;obtain⟨H,F⟩:=QaP y);go_ret;exact⟨rfl,bel_then (Qaa _ _) y⟩
 ·have he:x.1.toList.isEmpty=false:=by
   rw[ByteArray.toList_eq]
   cases h:x.1.data.toList with
   |nil=>exact absurd h h0
   |cons a q=>rfl
  have U:=fun W (h1:Below w.heap.size w W)=>QaH b o n c cs x.1 W V ae (by have:=h1.size;omega) (J.below h1 hb)
  cases g:Qaq cs x.1.data.toList with
  |none=>
   have D:QbY cs x=0:=by unfold QbY;rw[if_neg h0,g]
   rw[show QaB cs x.1.data.toList= -1 by rw[QaB,g]] at U;have N:=Hk U;rw[D];clear U D g h0 V J;go_enter Tryz.func167,Tryz.ntmps167;go_wp2_with (go_at_call 133;refine(N.out _ (Qaa _ _)).mono ?_;rintro e M ⟨rfl,y⟩;obtain⟨H,F⟩:=QaP y);go_ret;exact⟨rfl,bel_then (Qaa _ _) y⟩
  |some i=>
   have K:=Qap g;have D:QbY cs x=if x.2.1=0/\x.2.2.1=0/\x.2.2.2.data.toList=[] then cs[i].2 else 0:=by
    unfold QbY;rw[if_neg h0,g];simp only[List.getElem?_eq_getElem K,Option.getD_some]
   rw[show QaB cs x.1.data.toList=(i:Int) by rw[QaB,g]] at U;have N:=Hk U;have d1:=(J i K).1;have d2:=(J i K).2;have ah:(i:Int)<(n:Int):=by omega
   rw[D];clear U D g h0 J;generalize ac:cs[i]=ci at*;clear ac K V
   by_cases z1:x.2.1=0
   ·by_cases Z:x.2.2.1=0
    ·by_cases O:x.2.2.2.data.toList=[]
     ·have z3':x.2.2.2.toList.isEmpty=true:=by rw[ByteArray.toList_eq,O];rfl
      rw[if_pos ⟨z1,Z,O⟩];clear O;go_enter Tryz.func167,Tryz.ntmps167;go_wp2_with (go_at_call 133;refine(N.out _ (Qaa _ _)).mono ?_;rintro e M ⟨rfl,y⟩;obtain⟨H,F⟩:=QaP y);go_ret;exact⟨rfl,bel_then (Qaa _ _) y⟩
     ·have z3':x.2.2.2.toList.isEmpty=false:=by
       rw[ByteArray.toList_eq]
       cases h:x.2.2.2.data.toList with
       |nil=>exact absurd h O
       |cons a q=>rfl
      rw[if_neg (fun h=>O h.2.2)];clear O;go_enter Tryz.func167,Tryz.ntmps167;go_wp2_with (go_at_call 133;refine(N.out _ (Qaa _ _)).mono ?_;rintro e M ⟨rfl,y⟩;obtain⟨H,F⟩:=QaP y);go_ret;exact⟨rfl,bel_then (Qaa _ _) y⟩
    ·rw[if_neg (fun h=>Z h.2.1)];have z2':(x.2.2.1==0)=false:=by simp[Z]
     go_enter Tryz.func167,Tryz.ntmps167;go_wp2_with (go_at_call 133;refine(N.out _ (Qaa _ _)).mono ?_;rintro e M ⟨rfl,y⟩;obtain⟨H,F⟩:=QaP y);go_ret;exact⟨rfl,bel_then (Qaa _ _) y⟩
   ·rw[if_neg (fun h=>z1 h.1)];have z1':(x.2.1==0)=false:=by simp[z1]
    go_enter Tryz.func167,Tryz.ntmps167;go_wp2_with (go_at_call 133;refine(N.out _ (Qaa _ _)).mono ?_;rintro e M ⟨rfl,y⟩;obtain⟨H,F⟩:=QaP y);go_ret;exact⟨rfl,bel_then (Qaa _ _) y⟩
def Qco (w:World) (b o:Nat) (ss:List ByteArray):Prop:=∀(j:Nat) (h:j<ss.length),w.cell? ⟨b,o+j,none⟩=some (.string ss[j])
theorem Qco.below {w w':World} {B b o:Nat} {y:List ByteArray} (h:Qco w b o y) (F:Below B w w') (D:b<B):Qco w' b o y:=fun j hj=>(F.cell (p:=⟨b,o+j,none⟩) D).trans (h j hj)
def inS (ss:List ByteArray) (x:List UInt8):Bool:=ss.any fun s=>s.data.toList==x
theorem indexS_any (b o n c:Nat) (y:List ByteArray) (x:ByteArray) (w:World) (N:y.length=n) (U:n<=100) (O:Qco w b o y):
 Calls Tryz.prog 71 #[.slice (some ⟨b,o,none⟩) n c,.string x] w fun e w'=>(∃i:Int,e=.returned (.int .i64 i)/\(0<=i↔inS y x.data.toList=true)/\-1<=i)/\w'=w:=by
 have K:=Hk N;clear N;go_enter Tryz.func71,Tryz.ntmps71;go_wp2
 go_loop [8] (fun i=>∃k:Nat,k<=n/\i=.int .i64 k/\(∀j (h:j<y.length),j<k->(y[j].data.toList==x.data.toList)=false)) (fun i=>n-(intOf i).toNat)
 case atStart=>exact⟨0,Nat.zero_le _,rfl,fun j _ h=>absurd h (by omega)⟩
 case round=>
  obtain⟨k,V,rfl,F⟩:=hrel;have M:=Hk F;clear F
  by_cases hlt:k<n
  ·have D:k<y.length:=by have:=K.out;omega
   have Z:=O k D
   cases hp:(x.toList==y[k].toList)
   ·go_wp2
    go_round
    case rel=>
     refine⟨k+1,by omega,by go_num,fun j h I=>?_⟩;rcases Nat.lt_or_ge j k with H|H
     ·exact M.out j h H
     ·obtain rfl:j=k:=by omega
      rw[ByteArray.toList_eq,ByteArray.toList_eq] at hp;rw[beq_eq_false_iff_ne] at hp⊢;exact fun e=>hp e.symm
    case measure=>simp[intOf];omega
   ·go_wp2;go_ret;refine⟨⟨(k:Int),rfl,?_,by omega⟩,rfl⟩;refine⟨fun _=>?_,fun _=>by omega⟩;rw[ByteArray.toList_eq,ByteArray.toList_eq] at hp;rw[inS,List.any_eq_true];exact⟨y[k],List.getElem_mem D,by rw[beq_iff_eq] at hp⊢;exact hp.symm⟩
  ·go_wp2;go_ret;refine⟨⟨-1,rfl,?_,by omega⟩,rfl⟩;refine⟨fun h=>absurd h (by omega),fun h=>?_⟩;rw[inS,List.any_eq_true] at h;obtain⟨s,J,he⟩:=h;obtain⟨j,I,rfl⟩:=List.mem_iff_getElem.1 J;have:=M.out j I (by have:=K.out;omega);rw[this] at he
   cases he
theorem QcN (b o n c:Nat) (h:List ByteArray) (x:ByteArray) (w:World) (H:h.length=n) (D:n<=100) (F:Qco w b o h):
 Calls Tryz.prog 37 #[.slice (some ⟨b,o,none⟩) n c,.string x] w fun e w'=>e=.returned (.bool (inS h x.data.toList))/\w'=w:=by
 have HI:=Hk (indexS_any b o n c h x w H D F);clear H F;go_enter Tryz.func37,Tryz.ntmps37;go_wp2_with (go_at_call 71;refine HI.out.mono ?_;rintro e J ⟨⟨i,rfl,y,I⟩,rfl⟩)
 all_goals go_ret
 all_goals refine⟨ret_bool ?_,rfl⟩
 all_goals
  rw[Bool.eq_iff_iff,<-y]
  try simp
def QcY:List ByteArray:=[⟨#[61]⟩,⟨#[60,62]⟩,⟨#[60]⟩,⟨#[60,61]⟩,⟨#[62]⟩,⟨#[62,61]⟩]
def QaV (cs:List Cl) (j:Jb):Int:=if inS QcY j.op.data.toList=false\/j.left.1.data.toList=[] then 1 else match Qaq cs j.left.1.data.toList with
 |none=>7
 |some i=>if QbY cs j.right=(cs[i]?.getD (⟨#[]⟩,0)).2 then 0 else 13
def QbK (n:Int):Value:=if n=0 then .nilIface else .iface 37 (.int .i64 n)
theorem Qqd (w:World):Qco (w.alloc (.cells #[.string ⟨#[61]⟩,.string ⟨#[60,62]⟩,.string ⟨#[60]⟩,.string ⟨#[60,61]⟩,.string ⟨#[62]⟩,.string ⟨#[62,61]⟩] 9)) w.heap.size 0 QcY:=by
 intro j y
 match j,y with
 |0,_=>simp[QcY]
 |1,_=>simp[QcY]
 |2,_=>simp[QcY]
 |3,_=>simp[QcY]
 |4,_=>simp[QcY]
 |5,_=>simp[QcY]
 |j+6,h=>exact absurd h (by simp[QcY])
theorem Qpp (x:ByteArray) (W:World) (H:Nat) (h:W.heap.size=H):
 Calls Tryz.prog 37 #[.slice (some ⟨H,0,none⟩) 6 6,.string x] (W.alloc (.cells #[.string ⟨#[61]⟩,.string ⟨#[60,62]⟩,.string ⟨#[60]⟩,.string ⟨#[60,61]⟩,.string ⟨#[62]⟩,.string ⟨#[62,61]⟩] 9)) fun e w'=>e=.returned (.bool (inS QcY x.data.toList))/\w'=W.alloc (.cells #[.string ⟨#[61]⟩,.string ⟨#[60,62]⟩,.string ⟨#[60]⟩,.string ⟨#[60,61]⟩,.string ⟨#[62]⟩,.string ⟨#[62,61]⟩] 9):=by
 subst h;exact QcN W.heap.size 0 6 6 QcY x _ rfl (by decide) (Qqd W)
theorem QhB (b o n c:Nat) (cs:List Cl) (j:Jb) (w:World) (N:cs.length=n) (ai:n<=100) (hb:b<w.heap.size) (O:Qau w b o cs) (hx:j.right.2.2.2.size<=maxLen):
 Calls Tryz.prog 125 #[.agg j.cells,.slice (some ⟨b,o,none⟩) n c] w fun e w'=>e=.returned (QbK (QaV cs j))/\Below w.heap.size w w':=by
 have HK:=Hk (fun W (h1:Below w.heap.size w W)=>Qfx b o n c cs j.right W N ai (by have:=h1.size;omega) (O.below h1 hb) hx);have J:=Hk (fun W (h1:Below w.heap.size w W)=>QaH b o n c cs j.left.1 W N ai (by have:=h1.size;omega) (O.below h1 hb));have I:=Hk (Qpp j.op);unfold Jb.cells
 cases g:inS QcY j.op.data.toList
 ·have F:QaV cs j=1:=by unfold QaV;rw[if_pos (Or.inl g)]
  rw[g] at I;rw[F];clear F g N O;go_enter Tryz.func125,Tryz.ntmps125;go_wp2_with (go_at_call 37;refine(I.out _ _ (by simp)).mono ?_;rintro e w1 ⟨rfl,rfl⟩);go_ret;exact⟨rfl,bel_box (Qaa _ _) _⟩
 ·rw[g] at I
  by_cases h0:j.left.1.data.toList=[]
  ·have he:j.left.1.toList.isEmpty=true:=by rw[ByteArray.toList_eq,h0];rfl
   have F:QaV cs j=1:=by unfold QaV;rw[if_pos (Or.inr h0)]
   rw[F];clear F g N O h0;go_enter Tryz.func125,Tryz.ntmps125;go_wp2_with (go_at_call 37;refine(I.out _ _ (by simp)).mono ?_;rintro e w1 ⟨rfl,rfl⟩);go_ret;exact⟨rfl,bel_box (Qaa _ _) _⟩
  ·have he:j.left.1.toList.isEmpty=false:=by
    rw[ByteArray.toList_eq]
    cases h:j.left.1.data.toList with
    |nil=>exact absurd h h0
    |cons a q=>rfl
   cases gp:Qaq cs j.left.1.data.toList with
   |none=>
    have F:QaV cs j=7:=by unfold QaV;rw[if_neg (by simp[g,h0]),gp]
    rw[show QaB cs j.left.1.data.toList= -1 by rw[QaB,gp]] at J;rw[F];clear F g N O h0 gp;go_enter Tryz.func125,Tryz.ntmps125;go_wp2_with (first|(go_at_call 37;refine(I.out _ _ (by simp)).mono ?_;rintro e w1 ⟨rfl,rfl⟩)|(go_at_call 133;refine(J.out _ (bel_box (Qaa _ _) _)).mono ?_;rintro e w2 ⟨rfl,y⟩));go_ret;exact⟨rfl,bel_then (bel_box (Qaa _ _) _) y⟩
   |some i=>
    have aj:=Qap gp;rw[show QaB cs j.left.1.data.toList=(i:Int) by rw[QaB,gp]] at J;have ar:(i:Int)<(n:Int):=by omega
    have F:QaV cs j=if QbY cs j.right=cs[i].2 then 0 else 13:=by
     unfold QaV;rw[if_neg (by simp[g,h0]),gp];simp only[List.getElem?_eq_getElem aj,Option.getD_some]
    have hd:=(O i aj).2;rw[F];clear F g N h0 gp;generalize cs[i]=ci at*;obtain⟨kd,ah⟩:∃k,QbY cs j.right=k:=⟨_,rfl⟩;rw[ah] at HK⊢;clear ah
    by_cases H:kd=ci.2
    ·rw[if_pos H];have hkc':(kd != ci.2)=false:=by simp[H]
     clear H;go_enter Tryz.func125,Tryz.ntmps125;go_wp2_with (first|(go_at_call 37;refine(I.out _ _ (by simp)).mono ?_;rintro e w1 ⟨rfl,rfl⟩)|(go_at_call 133;refine(J.out _ (bel_box (Qaa _ _) _)).mono ?_;rintro e w2 ⟨rfl,y⟩));have D:=bel_then (bel_box (Qaa _ _) _) y;have ab:=cell_regrown ((y.cell (p:=⟨w.heap.size,10,none⟩) (by simp;omega)).trans (show _=some (Value.string j.right.1) by simp));have V:=cell_regrown ((y.cell (p:=⟨w.heap.size,11,none⟩) (by simp;omega)).trans (show _=some (Value.int .i64 j.right.2.1) by simp));have ad:=cell_regrown ((y.cell (p:=⟨w.heap.size,12,none⟩) (by simp;omega)).trans (show _=some (Value.int .i64 j.right.2.2.1) by simp));have Z:=cell_regrown ((y.cell (p:=⟨w.heap.size,13,none⟩) (by simp;omega)).trans (show _=some (Value.string j.right.2.2.2) by simp));have ed:=cell_regrown (cK D hb hd);have M:∀d os,_:=fun d os=>Calls.regrown_of (HK.out (Sort.grow (redrawn w2 d) os) (bel_then D (below_regrown _ _ _)))
     have HB:=Hk D;clear I J HK D y;refine wp_region_quiet_below (by kernel_rfl) (by kernel_rfl) ?_
     repeat(any_goals(first|go_big_quiet_step (exact M _ _)|quiet_step (exact M _ _)))
     refine wpQuiet_nil ?_;intro _ U;obtain⟨⟨dq,ao⟩,K⟩:=U;subst K;clear ab V ad Z ed M;go_wp2;go_ret;exact⟨rfl,bel_then HB.out (below_regrown _ _ _)⟩
    ·rw[if_neg H];have hkc':(kd != ci.2)=true:=by simp[H]
     clear H;go_enter Tryz.func125,Tryz.ntmps125;go_wp2_with (first|(go_at_call 37;refine(I.out _ _ (by simp)).mono ?_;rintro e w1 ⟨rfl,rfl⟩)|(go_at_call 133;refine(J.out _ (bel_box (Qaa _ _) _)).mono ?_;rintro e w2 ⟨rfl,y⟩));have D:=bel_then (bel_box (Qaa _ _) _) y;have ab:=cell_regrown ((y.cell (p:=⟨w.heap.size,10,none⟩) (by simp;omega)).trans (show _=some (Value.string j.right.1) by simp));have V:=cell_regrown ((y.cell (p:=⟨w.heap.size,11,none⟩) (by simp;omega)).trans (show _=some (Value.int .i64 j.right.2.1) by simp));have ad:=cell_regrown ((y.cell (p:=⟨w.heap.size,12,none⟩) (by simp;omega)).trans (show _=some (Value.int .i64 j.right.2.2.1) by simp));have Z:=cell_regrown ((y.cell (p:=⟨w.heap.size,13,none⟩) (by simp;omega)).trans (show _=some (Value.string j.right.2.2.2) by simp));have ed:=cell_regrown (cK D hb hd);have M:∀d os,_:=fun d os=>Calls.regrown_of (HK.out (Sort.grow (redrawn w2 d) os) (bel_then D (below_regrown _ _ _)))
     have HB:=Hk D;clear I J HK D y;refine wp_region_quiet_below (by kernel_rfl) (by kernel_rfl) ?_
     repeat(any_goals(first|go_big_quiet_step (exact M _ _)|quiet_step (exact M _ _)))
     refine wpQuiet_nil ?_;intro _ U;obtain⟨⟨dq,ao⟩,K⟩:=U;subst K;clear ab V ad Z ed M;go_wp2;go_ret;exact⟨rfl,bel_then HB.out (below_regrown _ _ _)⟩
end Go.Proofs.YtjlgejennghhlaaGreatDoor
