import Derived.Test.YtofidnijfnhpaaaGreatDoorQ01
import Derived.Test.YtofidnijfnhpaaaGreatDoorQ30
import Derived.Test.YtofidnijfnhpaaaGreatDoorQ42
import Derived.Test.YtofidnijfnhpaaaGreatDoorQ18
import Derived.Test.YtofidnijfnhpaaaGreatDoorQ22
import Derived.Test.YtofidnijfnhpaaaGreatDoorQ33
set_option linter.unusedSimpArgs false
set_option linter.unusedVariables false
set_option linter.unusedSectionVars false
set_option maxRecDepth 1000000
set_option maxHeartbeats 16000000
namespace Go.Proofs.YtofidnijfnhpaaaGreatDoor
open Go.RowKit
theorem Qac.num {w:World} {B o c:Nat} {us:List Value} {rs:List (List Vl)} {a:Vl} {t:Int} (h:Qac w B (us++[.slice (some ⟨o,0,none⟩) 2 c]) (rs++[[a,(1,t,⟨#[]⟩)]])) (U:List.Pairwise Qbt (us++[.slice (some ⟨o,0,none⟩) 2 c])) (q:Int):Qac (w.setCell ⟨o,4,none⟩ (.int .i64 q)) B (us++[.slice (some ⟨o,0,none⟩) 2 c]) (rs++[[a,(1,q,⟨#[]⟩)]]):=by
 have E:us.length=rs.length:=by have:=h.1;simpa using this
 refine⟨by simp[E],fun j hj hj'=>?_⟩
 have I:j<(rs++[[a,(1,t,⟨#[]⟩)]]).length:=by simp at hj'⊢;exact hj'
 obtain⟨z,A⟩:=h.2 j hj I
 by_cases D:j<us.length
 ·have hlt':j<rs.length:=by omega
  have N:Qbt us[j] (.slice (some ⟨o,0,none⟩) 2 c):=(List.pairwise_append.1 U).2.2 _ (List.getElem_mem D) _ (by simp)
  simp only[List.getElem_append_left D,List.getElem_append_left hlt'] at z A⊢
  refine⟨ownsRow_setCell_other z (fun e=>N o e rfl) _,A⟩
 ·have O:j=us.length:=by simp at hj;omega
  subst O
  have K:us.length-rs.length=0:=by omega
  have V:¬us.length<rs.length:=by omega
  have F:(rs++[[a,(1,t,⟨#[]⟩)]])[us.length]'I=[a,(1,t,⟨#[]⟩)]:=by rw[List.getElem_append_right (by omega)];simp[K]
  have T:(rs++[[a,(1,q,⟨#[]⟩)]])[us.length]'hj'=[a,(1,q,⟨#[]⟩)]:=by rw[List.getElem_append_right (by omega)];simp[K]
  have M:(us++[Value.slice (some ⟨o,0,none⟩) 2 c])[us.length]'hj=.slice (some ⟨o,0,none⟩) 2 c:=by rw[List.getElem_append_right (by omega)];simp
  rw[F,M] at z
  rw[F] at A
  rw[T,M]
  refine⟨(z.stored 4 (.int .i64 q)).1,?_⟩
  intro y J
  simp at J
  rcases J with rfl|rfl
  ·exact A _ (by simp)
  ·exact Nat.zero_le _
theorem Qei (w:World) (B:Nat) (a:Vl) (num:Int) (j:B<=w.heap.size) (H:Nat) (h:w.heap.size=H):(w.alloc (.cells #[.int .i64 a.1,.int .i64 a.2.1,.string a.2.2,.int .i64 1,.int .i64 num,.string ⟨#[]⟩] 24)).ownsRow B 24 3 (.slice (some ⟨H,0,none⟩) 2 2) 2 (Qai [a,(1,num,⟨#[]⟩)]):=by
 subst h
 exact⟨by simp[Qai],Or.inr ⟨w.heap.size,2,#[.int .i64 a.1,.int .i64 a.2.1,.string a.2.2,.int .i64 1,.int .i64 num,.string ⟨#[]⟩],rfl,j,by show(w.heap.push _)[w.heap.size]? =_;simp,by omega,by unfold maxLen;omega,by simp,by simp[Qai]⟩⟩
theorem Qcf (gs:List Gr) (g:Gr):Qao (gs++[g])=Qao gs++[[g.1,(1,g.2,⟨#[]⟩)]]:=by simp[Qao]
theorem QaE (gs:List Gr):(Qao gs).length=gs.length:=by simp[Qao]
theorem QhJ {w:World} {B F:Nat} {o:Option Addr} {us:List Value} {gs:List Gr} {g:Gr} (h:Qac w B (us++[.slice o 2 F]) (Qao (gs++[g]))):∃ub,o=some ⟨ub,0,none⟩/\B<=ub/\ub<w.heap.size/\w.cell? ⟨ub,0,none⟩=some (.int .i64 g.1.1)/\w.cell? ⟨ub,1,none⟩=some (.int .i64 g.1.2.1)/\w.cell? ⟨ub,2,none⟩=some (.string g.1.2.2)/\w.cell? ⟨ub,4,none⟩=some (.int .i64 g.2)/\w.frozen? ⟨ub,4,none⟩=false:=by
 have A:us.length=gs.length:=by have:=h.1;simpa [Qao] using this
 obtain⟨D,-⟩:=h.2 us.length (by simp) (by rw[QaE];simp;omega)
 have K:(Qao (gs++[g]))[us.length]'(by rw[QaE];simp;omega)=[g.1,(1,g.2,⟨#[]⟩)]:=by
  simp only[Qcf]
  rw[List.getElem_append_right (by rw[QaE];omega)]
  simp[QaE,A]
 have N:(us++[Value.slice o 2 F])[us.length]'(by simp)=.slice o 2 F:=by rw[List.getElem_append_right (by omega)];simp
 rw[K,N] at D
 have I:∀E,o=some ⟨E,0,none⟩->∀k,w.frozen? ⟨E,k,none⟩=false:=by
  intro E z k
  obtain⟨-,⟨j,-⟩|⟨g',O,V,j,-,J,-⟩⟩:=D
  ·rw[z] at j;simp at j
  ·rw[z] at j
   simp only[Value.slice.injEq,Option.some.injEq,Addr.mk.injEq] at j
   obtain⟨⟨rfl,-⟩,-,-⟩:=j
   simp[World.frozen?,J]
 obtain⟨b,Z,e,M,T,U⟩:=QaY D (by simp)
 simp only[Value.slice.injEq] at e
 have q:∀k y,(Qai [g.1,(1,g.2,⟨#[]⟩)])[k]? =some y->w.cell? ⟨b,k,none⟩=some y:=fun k y hy=>by simpa using U k y hy
 exact⟨b,e.1,M,T,q 0 _ rfl,q 1 _ rfl,q 2 _ rfl,q 4 _ rfl,I b e.1 4⟩
def QcI (e:Ending) (w':World) (B:Nat) (w:World) (gs:List Gr):Prop:=∃v us,e=.returned v/\w'.ownsRow B 57 1 v gs.length us/\Qac w' B us (Qao gs)/\us.Pairwise Qbt/\Below B w w'
theorem Qej {W D w:World} {B:Nat} {v A:Value} {us:List Value} {gs:List Gr} {a:Vl} {num:Int} {H:Nat} (hv:w.ownsRow B 57 1 v gs.length us) (F:Qac w B us (Qao gs)) (Z:us.Pairwise Qbt) (hsz:a.2.2.size<=maxLen) (o:Below w.heap.size w W) (J:W.ownsRow w.heap.size 24 3 (.slice (some ⟨H,0,none⟩) 2 2) 2 (Qai [a,(1,num,⟨#[]⟩)])) (U:B<=w.heap.size)
 (E:D.ownsRow B 57 1 A (gs.length+1) (us++[.slice (some ⟨H,0,none⟩) 2 2])) (N:W.grownBy D v.ownBlock):QcI (.returned A) D B w (gs++[(a,num)]):=by
 have q:=Qaf hv o
 have V:=(F.below o).snoc (Qam U J) (by intro x h;simp at h;rcases h with rfl|rfl;exact hsz;exact Nat.zero_le _)
 have M:=V.grow q N
 refine⟨A,us++[.slice (some ⟨H,0,none⟩) 2 2],rfl,by simpa using E,by rw[Qcf];exact M,?_,?_⟩
 ·refine List.pairwise_append.2 ⟨Z,by simp,?_⟩
  intro x h y K b T O
  simp at K
  subst K
  obtain⟨j,I,rfl⟩:=List.getElem_of_mem h
  have h1:=((F.2 j I (by rw[<-F.1];exact I)).1.lt b T).2
  have h2:=(J.lt b O).1
  omega
 ·exact((o.mono U).grown N (by have:=o.size;omega) (fun z hz=>(q.lt z hz).1))
theorem Qif {w W:World} {B D I h o G:Nat} {us:List Value} {gs:List Gr} {g:Gr} {a:Vl} (U:gs.length=G) (K:w.ownsRow B 57 1 (.slice (some ⟨D,0,none⟩) (G+1) I) (gs++[g]).length (us++[.slice (some ⟨h,0,none⟩) 2 o])) (z:Qac w B (us++[.slice (some ⟨h,0,none⟩) 2 o]) (Qao (gs++[g]))) (F:List.Pairwise Qbt (us++[.slice (some ⟨h,0,none⟩) 2 o])) (O:g.1=a) (E:B<=h) (N:B<=w.heap.size) (A:Below w.heap.size w W) (t:Int):QcI (.returned (.slice (some ⟨D,0,none⟩) (G+1) I)) (W.setCell ⟨h,4,none⟩ (.int .i64 t)) B w (gs++[(a,t)]):=by
 subst O
 have T:us.length=gs.length:=by have J:=z.1;rw[QaE] at J;simpa using J
 have q:=z.below A
 have y:=(z.2 us.length (by simp) (by rw[QaE];simp;omega)).1
 have M:(us++[Value.slice (some ⟨h,0,none⟩) 2 o])[us.length]'(by simp)=.slice (some ⟨h,0,none⟩) 2 o:=by rw[List.getElem_append_right (by omega)];simp
 rw[M] at y
 have j:=Qch (by decide) y K
 rw[Qcf] at q
 refine⟨_,us++[.slice (some ⟨h,0,none⟩) 2 o],rfl,?_,by rw[Qcf];exact q.num F t,F,(A.mono N).setCell E _⟩
 have e:(gs++[(g.1,t)]).length=(gs++[g]).length:=by simp
 rw[e]
 refine ownsRow_setCell_other (Qaf K A) ?_ _
 rcases j with j|j
 ·simp[Value.ownBlock] at j
 ·exact fun e=>j (by rw[e];rfl)
theorem QkV {w W:World} {B j o G:Nat} {us:List Value} {gs:List Gr} {g:Gr} {a:Vl} (A:w.ownsRow B 57 1 (.slice (some ⟨j,0,none⟩) (G+1) o) (gs++[g]).length us) (q:Qac w B us (Qao (gs++[g]))) (D:List.Pairwise Qbt us) (z:g.1=a) (y:B<=w.heap.size) (h:Below w.heap.size w W):QcI (.returned (.slice (some ⟨j,0,none⟩) (G+1) o)) W B w (gs++[(a,g.2)]):=by
 subst z
 exact⟨_,us,rfl,Qaf A h,q.below h,D,h.mono y⟩
theorem QiU (y:Option Addr) (o B:Nat) (us:List Value) (a:Vl) (num:Int) (op:ByteArray) (w:World) (q:w.ownsRow B 57 1 (.slice y 0 o) 0 us) (hsz:a.2.2.size<=maxLen) (O:B<=w.heap.size):
 Calls Tryz.prog 37 #[.slice y 0 o,.agg #[.int .i64 a.1,.int .i64 a.2.1,.string a.2.2],.agg #[.int .i64 1,.int .i64 num,.string ⟨#[]⟩],.string op] w fun e w'=>QcI e w' B w [(a,num)]:=by
 obtain⟨i1,A,I,z,D⟩:=info_parts Tryz.infoRow
 have J:=Hk (show w.ownsRow B 57 1 (.slice y 0 o) ([]:List Gr).length us from q)
 obtain rfl:us=[]:=by have:=q.1;simpa using this
 have N:=Hk (show Qac w B [] (Qao []) from Qac.nil w B)
 have M:Hid (List.Pairwise Qbt ([]:List Value)):=hid (by simp)
 have F:Hid (0+1<=maxLen):=hid (by decide)
 have E:Hid ((0+1)*24<=140737488355328):=hid (by decide)
 clear q
 go_enter Tryz.func37,Tryz.ntmps37
 go_wp2
 go_quiet (fail)
 go_wp2_with (at_builtin;refine wpList_append_own _ rfl _ _ 34 rfl B 57 i1 (.slice none 0 0) 1 24 Tryz.underlying34 A I z D rfl (by decide) _ _ _ rfl (Qaf J.out (Qad (Qad (below_drewN (Qad (Qab _ _) _) _) _) _)) ⟨w.heap.size+3,0,none⟩ 1 1 [.slice (some ⟨w.heap.size+2,0,none⟩) 2 2] rfl rfl (QbG _ _ _ _ (by simp)) (QbZ _ _ _) F.out E.out (by simp;omega) ?_)
 intro U T h j _
 have K:=Hk (Qej J.out N.out M.out hsz (Qad (Qad (below_drewN (Qad (Qab _ _) _) _) _) _) (Qaf (Qei _ w.heap.size a num (by simp;omega) (w.heap.size+2) (by simp)) (Qab _ _)) O h j)
 clear h j
 go_wp2
 go_ret
 exact K.out
theorem QkW (va M:Option Addr) (vc q B G:Nat) (us:List Value) (gs:List Gr) (g:Gr) (a:Vl) (num:Int) (op:ByteArray) (w:World) (o:g.1≠a) (N:w.ownsRow B 57 1 (.slice va (G+1) vc) (G+1) (us++[.slice M 2 q])) (O:Qac w B (us++[.slice M 2 q]) (Qao (gs++[g]))) (hP:List.Pairwise Qbt (us++[.slice M 2 q])) (hsz:a.2.2.size<=maxLen) (Z:B<=w.heap.size) (hG:gs.length=G) (ap:G<=1000) (aq: -100000000000<=g.2) (av:g.2<=100000000000) (au: -1000000000<=num) (aw:num<=1000000000):
 Calls Tryz.prog 37 #[.slice va (G+1) vc,.agg #[.int .i64 a.1,.int .i64 a.2.1,.string a.2.2],.agg #[.int .i64 1,.int .i64 num,.string ⟨#[]⟩],.string op] w fun e w'=>QcI e w' B w ((gs++[g])++[(a,num)]):=by
 obtain⟨i1,y,E,F,J⟩:=info_parts Tryz.infoRow
 have HO:=Hk (show w.ownsRow B 57 1 (.slice va (G+1) vc) (gs++[g]).length (us++[.slice M 2 q]) by simp only[List.length_append,List.length_cons,List.length_nil,hG];exact N)
 have D:=Hk N
 have HH:=Hk O
 have HP:=Hk hP
 have K:Hid (G+1+1<=maxLen):=hid (by unfold maxLen;omega)
 have z:Hid ((G+1+1)*24<=140737488355328):=hid (by omega)
 have V:us.length=G:=by have h1:=O.1;rw[QaE] at h1;simp at h1;omega
 obtain⟨vb,aE,U,aD,aA,T⟩:=QaY N (by omega)
 simp only[Value.slice.injEq,true_and] at U
 obtain⟨rfl,rfl⟩:=U
 obtain⟨ub,rfl,aC,ar,u0,u1,u2,u4,uf⟩:=QhJ O
 have ax:w.cell? ⟨vb,G,none⟩=some (.slice (some ⟨ub,0,none⟩) 2 q):=by
  have:=T G (.slice (some ⟨ub,0,none⟩) 2 q) (by rw[List.getElem?_append_right (by omega)];simp[V])
  simpa using this
 have am:((G+1:Nat):Int)-1=(G:Int):=by omega
 have ak:¬((G:Int)<0):=by omega
 have aB:decide ((G:Int)<0)=false:=decide_eq_false ak
 have A:=Hk hG
 have az:((G:Int)+1==0)=false:=by simp;omega
 have aG:IntKind.i64.wrap (G:Int)=(G:Int):=by rw[IntKind.wrap_i64];omega
 have ay:(G:Int)<(G:Int)+1:=by omega
 clear T N O hP hG V
 by_cases d0:g.1.1=a.1
 ·by_cases d1:g.1.2.1=a.2.1
  ·by_cases d2:g.1.2.2.toList=a.2.2.toList
   ·exact absurd (Prod.ext d0 (Prod.ext d1 (QbS d2))) o
   ·have d0':(g.1.1==a.1)=true:=by simp[d0]
    have d1':(g.1.2.1==a.2.1)=true:=by simp[d1]
    have d2':(g.1.2.2.toList==a.2.2.toList)=false:=by simp[d2]
    clear o
    go_enter Tryz.func37,Tryz.ntmps37
    go_wp2
    go_quiet (fail)
    go_wp2_with (at_builtin;refine wpList_append_own _ rfl _ _ 34 rfl B 57 i1 (.slice none 0 0) 1 24 Tryz.underlying34 y E F J rfl (by decide) _ _ _ rfl (Qaf D.out (Qad (Qad (below_drewN (Qad (Qab _ _) _) _) _) _)) ⟨w.heap.size+3,0,none⟩ 1 1 [.slice (some ⟨w.heap.size+2,0,none⟩) 2 2] rfl rfl (QbG _ _ _ _ (by simp)) (QbZ _ _ _) K.out z.out (by simp;omega) ?_)
    intro v' w5 j h _
    have I:=Hk (Qej (gs:=gs++[g]) HO.out HH.out HP.out hsz (Qad (Qad (below_drewN (Qad (Qab _ _) _) _) _) _) (Qaf (Qei _ w.heap.size a num (by simp;omega) (w.heap.size+2) (by simp)) (Qab _ _)) Z (by simp only[List.length_append,List.length_cons,List.length_nil,A.out,List.append_assoc,List.cons_append,List.nil_append,Nat.zero_add];exact j) h)
    clear j h
    go_wp2
    go_ret
    exact I.out
  ·have d0':(g.1.1==a.1)=true:=by simp[d0]
   have d1':(g.1.2.1==a.2.1)=false:=by simp[d1]
   clear o
   go_enter Tryz.func37,Tryz.ntmps37
   go_wp2
   go_quiet (fail)
   go_wp2_with (at_builtin;refine wpList_append_own _ rfl _ _ 34 rfl B 57 i1 (.slice none 0 0) 1 24 Tryz.underlying34 y E F J rfl (by decide) _ _ _ rfl (Qaf D.out (Qad (Qad (below_drewN (Qad (Qab _ _) _) _) _) _)) ⟨w.heap.size+3,0,none⟩ 1 1 [.slice (some ⟨w.heap.size+2,0,none⟩) 2 2] rfl rfl (QbG _ _ _ _ (by simp)) (QbZ _ _ _) K.out z.out (by simp;omega) ?_)
   intro v' w5 j h _
   have I:=Hk (Qej (gs:=gs++[g]) HO.out HH.out HP.out hsz (Qad (Qad (below_drewN (Qad (Qab _ _) _) _) _) _) (Qaf (Qei _ w.heap.size a num (by simp;omega) (w.heap.size+2) (by simp)) (Qab _ _)) Z (by simp only[List.length_append,List.length_cons,List.length_nil,A.out,List.append_assoc,List.cons_append,List.nil_append,Nat.zero_add];exact j) h)
   clear j h
   go_wp2
   go_ret
   exact I.out
 ·have d0':(g.1.1==a.1)=false:=by simp[d0]
  clear o
  go_enter Tryz.func37,Tryz.ntmps37
  go_wp2
  go_quiet (fail)
  go_wp2_with (at_builtin;refine wpList_append_own _ rfl _ _ 34 rfl B 57 i1 (.slice none 0 0) 1 24 Tryz.underlying34 y E F J rfl (by decide) _ _ _ rfl (Qaf D.out (Qad (Qad (below_drewN (Qad (Qab _ _) _) _) _) _)) ⟨w.heap.size+3,0,none⟩ 1 1 [.slice (some ⟨w.heap.size+2,0,none⟩) 2 2] rfl rfl (QbG _ _ _ _ (by simp)) (QbZ _ _ _) K.out z.out (by simp;omega) ?_)
  intro v' w5 j h _
  have I:=Hk (Qej (gs:=gs++[g]) HO.out HH.out HP.out hsz (Qad (Qad (below_drewN (Qad (Qab _ _) _) _) _) _) (Qaf (Qei _ w.heap.size a num (by simp;omega) (w.heap.size+2) (by simp)) (Qab _ _)) Z (by simp only[List.length_append,List.length_cons,List.length_nil,A.out,List.append_assoc,List.cons_append,List.nil_append,Nat.zero_add];exact j) h)
  clear j h
  go_wp2
  go_ret
  exact I.out
theorem QkX (va I:Option Addr) (Z z B G:Nat) (us:List Value) (gs:List Gr) (g:Gr) (a:Vl) (num:Int) (op:ByteArray) (w:World) (O:Hid (g.1=a)) (ae:op=⟨#[115,117,109]⟩) (J:w.ownsRow B 57 1 (.slice va (G+1) Z) (G+1) (us++[.slice I 2 z])) (K:Qac w B (us++[.slice I 2 z]) (Qao (gs++[g]))) (hP:List.Pairwise Qbt (us++[.slice I 2 z])) (hsz:a.2.2.size<=maxLen) (hB:B<=w.heap.size) (V:gs.length=G) (aq:G<=1000) (au: -100000000000<=g.2) (ax:g.2<=100000000000) (av: -1000000000<=num) (az:num<=1000000000):
 Calls Tryz.prog 37 #[.slice va (G+1) Z,.agg #[.int .i64 a.1,.int .i64 a.2.1,.string a.2.2],.agg #[.int .i64 1,.int .i64 num,.string ⟨#[]⟩],.string op] w fun e w'=>QcI e w' B w (gs++[(a,g.2+num)]):=by
 obtain⟨i1,aH,aR,aT,aV⟩:=info_parts Tryz.infoRow
 have HO:=Hk (show w.ownsRow B 57 1 (.slice va (G+1) Z) (gs++[g]).length (us++[.slice I 2 z]) by simp only[List.length_append,List.length_cons,List.length_nil,V];exact J)
 have aP:=Hk J
 have HH:=Hk K
 have HP:=Hk hP
 have aW:Hid (G+1+1<=maxLen):=hid (by unfold maxLen;omega)
 have aI:Hid ((G+1+1)*24<=140737488355328):=hid (by omega)
 have U:us.length=G:=by have h1:=K.1;rw[QaE] at h1;simp at h1;omega
 obtain⟨vb,aQ,T,aO,aL,M⟩:=QaY J (by omega)
 simp only[Value.slice.injEq,true_and] at T
 obtain⟨rfl,rfl⟩:=T
 obtain⟨o,rfl,ag,D,u0,u1,u2,u4,uf⟩:=QhJ K
 have ab:w.cell? ⟨vb,G,none⟩=some (.slice (some ⟨o,0,none⟩) 2 z):=by
  have:=M G (.slice (some ⟨o,0,none⟩) 2 z) (by rw[List.getElem?_append_right (by omega)];simp[U])
  simpa using this
 have am:((G+1:Nat):Int)-1=(G:Int):=by omega
 have ai:¬((G:Int)<0):=by omega
 have aN:decide ((G:Int)<0)=false:=decide_eq_false ai
 have ah:=Hk V
 have aK:((G:Int)+1==0)=false:=by simp;omega
 have aU:IntKind.i64.wrap (G:Int)=(G:Int):=by rw[IntKind.wrap_i64];omega
 have aG:(G:Int)<(G:Int)+1:=by omega
 clear M J K hP V U
 subst ae
 have y:=O.out
 have d0':(g.1.1==a.1)=true:=by simp[y]
 have d1':(g.1.2.1==a.2.1)=true:=by simp[y]
 have d2':(g.1.2.2.toList==a.2.2.toList)=true:=by simp[y]
 clear y
 go_enter Tryz.func37,Tryz.ntmps37
 go_wp2
 go_quiet (fail)
 go_wp2
 obtain⟨q,j⟩:∃W,W=(((w.alloc (.cells #[.int .i64 a.1,.int .i64 a.2.1,.string a.2.2] 24)).alloc (.cells #[.int .i64 1,.int .i64 num,.string ⟨#[]⟩] 24)).drewN nq):=⟨_,rfl⟩
 have E:Below w.heap.size w q:=by rw[j];exact below_drewN (Qad (Qab _ _) _) _
 have aS:q.heap.size=w.heap.size+1+1:=by rw[j];simp
 have r1:q.cell? ⟨w.heap.size+1,1,none⟩=some (.int .i64 num):=by rw[j];simp
 rw[<-j]
 clear j
 have r4:=cK E D u4
 have rf:=(E.frozen (p:=⟨o,4,none⟩) D).trans uf
 have F:o<q.heap.size:=by omega
 have aM:w.heap.size+1<q.heap.size:=by omega
 clear u0 u1 u2 u4 uf d0' d1' d2' ab
 have aJ:IntKind.i64.wrap (g.2+num)=g.2+num:=by rw[IntKind.wrap_i64];omega
 have g4:=cell_regrown r4
 have g1:=cell_regrown r1
 refine wp_region_tail 8 (by kernel_rfl) (by kernel_rfl) rfl (Or.inl ⟨rfl,fun _=>rfl⟩) (fun _ _ _ h=>h) ?_
 simp only[List.drop_succ_cons,List.drop_zero,List.take_succ_cons,List.take_zero]
 repeat(any_goals(first|go_big_quiet_step (fail)|quiet_step (fail)))
 refine wpQuiet_nil ?_
 intro w8 al
 obtain⟨⟨dq,N⟩,rfl⟩:=al
 have A:=below_regrown q dq N
 clear g4 g1
 generalize Sort.grow (redrawn q dq) N=W8 at*
 have c8:=cK A F r4
 have f8:=(A.frozen (p:=⟨o,4,none⟩) F).trans rf
 have HF:=Hk (Qif ah.out HO.out HH.out HP.out O.out ag hB (Qaa E A) (g.2+num))
 go_wp2
 go_ret
 exact HF.out
theorem QkY (K y:Option Addr) (J j B G:Nat) (us:List Value) (gs:List Gr) (g:Gr) (a:Vl) (num:Int) (op:ByteArray) (w:World) (o:Hid (g.1=a)) (N:op=⟨#[109,97,120]⟩) (z:w.ownsRow B 57 1 (.slice K (G+1) J) (G+1) (us++[.slice y 2 j])) (A:Qac w B (us++[.slice y 2 j]) (Qao (gs++[g]))) (M:List.Pairwise Qbt (us++[.slice y 2 j])) (hsz:a.2.2.size<=maxLen) (O:B<=w.heap.size) (I:gs.length=G) (ah:G<=1000) (ai: -100000000000<=g.2) (al:g.2<=100000000000) (ak: -1000000000<=num) (am:num<=1000000000):
 Calls Tryz.prog 37 #[.slice K (G+1) J,.agg #[.int .i64 a.1,.int .i64 a.2.1,.string a.2.2],.agg #[.int .i64 1,.int .i64 num,.string ⟨#[]⟩],.string op] w fun e w'=>QcI e w' B w (gs++[(a,max g.2 num)]):=by
 obtain⟨i1,ao,aA,aB,aD⟩:=info_parts Tryz.infoRow
 have T:=Hk (show w.ownsRow B 57 1 (.slice K (G+1) J) (gs++[g]).length (us++[.slice y 2 j]) by simp only[List.length_append,List.length_cons,List.length_nil,I];exact z)
 have ay:=Hk z
 have Z:=Hk A
 have HP:=Hk M
 have aE:Hid (G+1+1<=maxLen):=hid (by unfold maxLen;omega)
 have ar:Hid ((G+1+1)*24<=140737488355328):=hid (by omega)
 have F:us.length=G:=by have h1:=A.1;rw[QaE] at h1;simp at h1;omega
 obtain⟨vb,az,E,ax,av,D⟩:=QaY z (by omega)
 simp only[Value.slice.injEq,true_and] at E
 obtain⟨rfl,rfl⟩:=E
 obtain⟨ub,rfl,U,aj,u0,u1,u2,u4,uf⟩:=QhJ A
 have ap:w.cell? ⟨vb,G,none⟩=some (.slice (some ⟨ub,0,none⟩) 2 j):=by
  have:=D G (.slice (some ⟨ub,0,none⟩) 2 j) (by rw[List.getElem?_append_right (by omega)];simp[F])
  simpa using this
 have af:((G+1:Nat):Int)-1=(G:Int):=by omega
 have ab:¬((G:Int)<0):=by omega
 have aw:decide ((G:Int)<0)=false:=decide_eq_false ab
 have V:=Hk I
 have au:((G:Int)+1==0)=false:=by simp;omega
 have aC:IntKind.i64.wrap (G:Int)=(G:Int):=by rw[IntKind.wrap_i64];omega
 have aq:(G:Int)<(G:Int)+1:=by omega
 clear D z A M I F
 subst N
 have h:=o.out
 have d0':(g.1.1==a.1)=true:=by simp[h]
 have d1':(g.1.2.1==a.2.1)=true:=by simp[h]
 have d2':(g.1.2.2.toList==a.2.2.toList)=true:=by simp[h]
 clear h
 by_cases hgn:g.2<num
 ·have ac:decide (g.2<num)=true:=decide_eq_true hgn
  have q:=Hk (show max g.2 num=num by omega)
  go_enter Tryz.func37,Tryz.ntmps37
  go_wp2
  go_quiet (fail)
  go_wp2
  go_quiet (fail)
  go_wp2
  go_ret
  rw[q.out]
  exact Qif V.out T.out Z.out HP.out o.out U O (below_drewN (Qad (Qab _ _) _) _) num
 ·have ac:decide (g.2<num)=false:=decide_eq_false hgn
  have q:=Hk (show max g.2 num=g.2 by omega)
  go_enter Tryz.func37,Tryz.ntmps37
  go_wp2
  go_quiet (fail)
  go_wp2
  go_quiet (fail)
  go_wp2
  go_ret
  rw[q.out]
  exact QkV T.out Z.out HP.out o.out O (below_drewN (below_drewN (Qad (Qab _ _) _) _) _)
end Go.Proofs.YtofidnijfnhpaaaGreatDoor
