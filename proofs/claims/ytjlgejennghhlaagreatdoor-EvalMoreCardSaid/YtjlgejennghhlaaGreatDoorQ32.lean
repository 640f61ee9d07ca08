import Derived.Test.YtjlgejennghhlaaGreatDoorQ01
import Derived.Test.YtjlgejennghhlaaGreatDoorQ31
set_option linter.unusedSimpArgs false
set_option linter.unusedVariables false
set_option linter.unusedSectionVars false
set_option maxRecDepth 1000000
set_option maxHeartbeats 16000000
namespace Go.Proofs.YtjlgejennghhlaaGreatDoor
open Go.RowKit
def Qc4 (p q:Nat) (gs:List Gr) (r:List Vl):List Gr:=
 match gs.getLast? with
 |none=>[(vAt r p,(vAt r q).2.1)]
 |some g=>if g.1=vAt r p then gs.dropLast++[(g.1,max g.2 (vAt r q).2.1)] else gs++[(vAt r p,(vAt r q).2.1)]
def Qeq (p q:Nat) (rs:List (List Vl)):List Gr:=rs.foldl (Qc4 p q) []
theorem Qd4 {p q:Nat} {y:List Gr} {r:List Vl} (h:∀g,y.getLast? =some g->g.1≠vAt r p):Qc4 p q y r=y++[(vAt r p,(vAt r q).2.1)]:=by
 unfold Qc4
 cases e:y.getLast? with
 |none=>rw[List.getLast?_eq_none_iff] at e;subst e;rfl
 |some g=>simp only[];rw[if_neg (h g e)]
theorem Ql4 {p q:Nat} {y:List Gr} {g:Gr} {r:List Vl} (h:g.1=vAt r p):Qc4 p q (y++[g]) r=y++[(g.1,max g.2 (vAt r q).2.1)]:=by
 unfold Qc4;simp[h]
theorem Ql5 (p q:Nat) (h:List Gr) (r:List Vl):(Qc4 p q h r).length<=h.length+1:=by
 unfold Qc4
 cases e:h.getLast? with
 |none=>simp
 |some g=>
  simp only[];split
  ·simp
  ·simp
theorem QcG (p q:Nat) (rs:List (List Vl)) (k:Nat) (h:k<rs.length):Qeq p q (rs.take (k+1))=Qc4 p q (Qeq p q (rs.take k)) rs[k]:=by
 unfold Qeq;rw[List.take_succ_eq_append_getElem h,List.foldl_append];rfl
theorem QfH (p q:Nat) (rs:List (List Vl)):(Qeq p q rs).length<=rs.length:=by
 have y:∀(l:List (List Vl)) (acc:List Gr),(l.foldl (Qc4 p q) acc).length<=acc.length+l.length:=by
  intro l
  induction l with
  |nil=>intro acc;simp
  |cons r l ih=>
   intro acc;have F:=ih (Qc4 p q acc r);have D:=Ql5 p q acc r;simp only[List.foldl_cons,List.length_cons];omega
 have h:=y rs [];rw[List.length_nil,Nat.zero_add] at h;exact h
theorem QfI (p q:Nat) (rs:List (List Vl)) (J:∀r∈rs,Qaz (vAt r q).2.1):∀g∈Qeq p q rs,-(1000000000*(rs.length:Int))<=g.2/\g.2<=1000000000*(rs.length:Int):=by
 have F:∀(l:List (List Vl)) (acc:List Gr) (N:Int),0<=N->(∀r∈l,Qaz (vAt r q).2.1)->(∀g∈acc,-(1000000000*N)<=g.2/\g.2<=1000000000*N)->∀g∈l.foldl (Qc4 p q) acc,-(1000000000*(N+(l.length:Int)))<=g.2/\g.2<=1000000000*(N+(l.length:Int)):=by
  intro l
  induction l with
  |nil=>intro acc N _ _ h g D;simpa using h g D
  |cons r l ih=>
   intro acc N M I h g D;have H:=I r (by simp);unfold Qaz at H;have h':=ih (Qc4 p q acc r) (N+1) (by omega) (fun x hx=>I x (by simp[hx])) (fun g' y=>by
    unfold Qc4 at y
    cases e:acc.getLast? with
    |none=>
     rw[e] at y;simp at y;rw[y];simp only;omega
    |some g0=>
     rw[e] at y;simp only[] at y;have K:=h g0 (List.mem_of_getLast? e);split at y
     ·rcases List.mem_append.1 y with y|y
      ·have:=h g' ((List.dropLast_sublist _).subset y);omega
      ·simp at y;rw[y];simp only;omega
     ·rcases List.mem_append.1 y with y|y
      ·have:=h g' y;omega
      ·simp at y;rw[y];simp only;omega) g (by simpa using D)
   simp only[List.length_cons];push_cast;omega
 intro g D;have:=F rs [] 0 (by omega) J (fun g D=>by simp at D) g D;simpa using this
theorem Ql6 (p q:Nat) (rs:List (List Vl)) (h:∀r∈rs,(vAt r p).2.2.size<=maxLen):∀g∈Qeq p q rs,g.1.2.2.size<=maxLen:=by
 have I:∀(l:List (List Vl)) (acc:List Gr),(∀r∈l,(vAt r p).2.2.size<=maxLen)->(∀g∈acc,g.1.2.2.size<=maxLen)->∀g∈l.foldl (Qc4 p q) acc,g.1.2.2.size<=maxLen:=by
  intro l
  induction l with
  |nil=>intro acc _ h g D;exact h g D
  |cons r l ih=>
   intro acc H F g D;refine ih (Qc4 p q acc r) (fun x hx=>H x (by simp[hx])) (fun g' y=>?_) g D;unfold Qc4 at y
   cases e:acc.getLast? with
   |none=>
    rw[e] at y;simp at y;rw[y];exact H r (by simp)
   |some g0=>
    rw[e] at y;simp only[] at y;split at y
    ·rcases List.mem_append.1 y with y|y
     ·exact F g' ((List.dropLast_sublist _).subset y)
     ·simp at y;rw[y];exact F g0 (List.mem_of_getLast? e)
    ·rcases List.mem_append.1 y with y|y
     ·exact F g' y
     ·simp at y;rw[y];exact H r (by simp)
 exact I rs [] h (fun g D=>by simp at D)
theorem QfJ (v:Value) (us:List Value) (rs:List (List Vl)) (B m p q:Nat) (w:World) (hv:w.ownsRow B 84 1 v rs.length us) (hH:Qab w B us rs) (hl:∀r∈rs,r.length=m) (h1:1<=m) (h6:m<=100) (bL:rs.length<=100) (hp:p<m) (hq:q<m) (aV:∀r∈rs,Qaz (vAt r q).2.1) (a4:∀r∈rs,∀x∈r,x.2.2.size<=maxLen) (bb:B<=w.heap.size):
 Calls Tryz.prog 148 #[v,.int .i64 p,.int .i64 q,.string ⟨#[109,97,120]⟩] w fun e w'=>Below B w w'/\Kept v w w'/\(((∀g∈Qeq p q (Qa8 [p] rs),Qaz g.2)/\∃v' us',e=.returned (.tuple #[v',.nilIface])/\w'.ownsRow B 84 1 v' (QaA (Qeq p q (Qa8 [p] rs))).length us'/\Qab w' B us' (QaA (Qeq p q (Qa8 [p] rs))))\/((¬∀g∈Qeq p q (Qa8 [p] rs),Qaz g.2)/\e=.returned (.tuple #[.slice none 0 0,QbK 2]))):=by
 obtain⟨i0,hi,aC,aJ,aI⟩:=info_parts Tryz.infoGrp;obtain⟨i1,bM,b4,bG,bN⟩:=info_parts Tryz.infoRow;have bk:(w.alloc (.cells #[.int .i64 p] 3)).ownsRow w.heap.size 3 1 (.slice (some ⟨w.heap.size,0,none⟩) 1 1) 1 (intCells [p]):=⟨by simp[intCells],Or.inr ⟨w.heap.size,1,#[.int .i64 p],rfl,Nat.le_refl _,by show(w.heap.push _)[w.heap.size]? =_;simp,by omega,by unfold maxLen;omega,by simp,by simp[intCells]⟩⟩;have bn:=Hk (QfF v (.slice (some ⟨w.heap.size,0,none⟩) 1 1) us rs B w.heap.size m [p] (w.alloc (.cells #[.int .i64 p] 3)) (hv.alloc _) (hH.below (Qaa _ _)) hl h1 h6 bL bk (by simp) (by simp) (by simpa using hp) (by simp;omega));have aE:=Hk (Ai hl (Ai aV a4));obtain⟨va,a9,rfl⟩:=own_slice hv;clear bk hv hH hl aV a4;go_enter Tryz.func148,Tryz.ntmps148;go_wp2_with (go_at_call 144;fail);refine bn.out.mono ?_;rintro e M ⟨cA,y,rfl,q1,q2,bf,a3,bq,a6⟩;have av:y=Qa8 [p] rs:=Stb.sortL_is (Qjl [p]) q1 q2;have aO:y.length=rs.length:=by rw[av,QbG]
 have a5:=Hk av;have aB:∀r∈y,r∈rs:=fun r hr=>(q2.mem (Qjl [p])).2 hr
 have aa:=Hk (show(∀r∈y,r.length=m)/\(∀r∈y,Qaz (vAt r q).2.1)/\(∀r∈y,∀x∈r,x.2.2.size<=maxLen) from⟨fun r hr=>aE.out.1 r (aB r hr),fun r hr=>aE.out.2.1 r (aB r hr),fun r hr=>aE.out.2.2 r (aB r hr)⟩);have au:=Hk (show Below B w M from((Below.refl _ _).alloc bb _).trans bq);have be:=Hk (show QaG M (.slice va rs.length a9) y from QbT (by rw[aO];exact bf) a3);have bo:=Hk (show Kept (.slice va rs.length a9) w M from fun p hp hne=>(a6 p (by simp;omega) hne).trans ((Qaa w _).cell hp));rw[<-aO] at be⊢;have h60':y.length<=100:=by omega
 have aU:B<=M.heap.size:=Nat.le_trans bb (by have:=au.out.size;omega);clear av aO aB q1 q2 bf a3 bq a6 bn aE;go_wp2
 go_loopg [10,25] y.length (fun g1 l i wr=>∃(k:Nat) (N:List Gr) (I:Nat),k<=y.length/\i=.int .i64 k/\y.length-k<=g1/\wr.ownsRow M.heap.size 254 4 l I (Qas N)/\Aside (Qeq p q (y.take k)=N/\Below M.heap.size M wr/\N.length=I))
 case atStart=>exact⟨0,[],0,Nat.zero_le _,rfl,by omega,World.ownsRow_nil _ _ _ _,rfl,Below.refl _ _,rfl⟩
 case round=>
  obtain⟨k,N,I,hk,rfl,hg,aw,HI⟩:=hrel;obtain⟨la,lc,rfl⟩:=own_slice aw;have HO:=Hk aw;have ac:=Hk HI.out.1;have V:=Hk HI.out.2.2;have cy:=HI.out.2.1.size;have bD:I<=100:=by have h1:=QfH p q (y.take k);rw[ac.out,List.length_take] at h1;have:=V.out;omega
  clear aw
  by_cases hlt:k<y.length
  ·have bA:(k:Int)<(y.length:Int):=by omega
   obtain⟨b1,o1,c1,a7,bs,aS⟩:=QhS be.out (by omega);simp only[Value.slice.injEq,true_and] at a7;obtain⟨rfl,rfl⟩:=a7;obtain⟨xb,xo,xc,a0,a8,ay⟩:=Ql3 aS hlt (aa.out.1 _ (List.getElem_mem hlt)) h1;have hxu':=cK HI.out.2.1 bs a0;obtain⟨e0,e1,e2⟩:=(ay.below HI.out.2.1 a8) p (by rw[aa.out.1 _ (List.getElem_mem hlt)];exact hp);obtain⟨-,f1,-⟩:=(ay.below HI.out.2.1 a8) q (by rw[aa.out.1 _ (List.getElem_mem hlt)];exact hq);have HRA':=Hk (Qdf (r:=y[k]) (k:=p) (by rw[aa.out.1 _ (List.getElem_mem hlt)];exact hp));have HRN':=Hk (Qdf (r:=y[k]) (k:=q) (by rw[aa.out.1 _ (List.getElem_mem hlt)];exact hq));have bg:=Hk (aa.out.2.1 _ (List.getElem_mem hlt));obtain⟨a,ha⟩:∃a,vAt y[k] p=a:=⟨_,rfl⟩;obtain⟨H,aA⟩:∃n,(vAt y[k] q).2.1=n:=⟨_,rfl⟩;rw[<-HRA'.out,ha] at e0 e1 e2;rw[<-HRN'.out,aA] at f1;have ad:=Hk ha;have ap:=Hk aA;have bd:Qaz H:=by have:=bg.out;rw[aA] at this;exact this
   unfold Qaz at bd;obtain⟨cn,cj⟩:=bd;have cz:(p:Int)<(m:Int):=by omega
   have cu:(q:Int)<(m:Int):=by omega
   clear a0 aS ay ha aA HRA' HRN' bg;rcases List.eq_nil_or_concat N with ak|⟨K,g,ak⟩
   ·have bZ:I=0:=by rw[<-V.out,ak];rfl
    subst bZ;have bt:=Hk ak;clear ak;have ae:=Hk (show Qeq p q (y.take (k+1))=N++[(a,H)] by rw[QcG p q y k hlt,ac.out,Qd4 (fun g' hg'=>by rw[bt.out] at hg';simp at hg'),ad.out,ap.out]);have ai:=Hk (show Qas (N++[(a,H)])=Qas N++[.int .i64 a.1,.int .i64 a.2.1,.string a.2.2,.int .i64 H] by rw[QaJ];rfl);go_wp2;go_quiet (fail);go_wp2_with (at_builtin;refine wpList_append_own _ rfl _ _ 252 rfl M.heap.size 254 i0 (.agg #[.int .i64 0,.int .i64 0,.string ⟨#[]⟩,.int .i64 0]) 4 40 Tryz.underlying252 hi aC aJ aI rfl (by decide) _ _ _ rfl ((Qa3 HO.out _).alloc _) ⟨wr.heap.size,0,none⟩ 1 1 [.int .i64 a.1,.int .i64 a.2.1,.string a.2.2,.int .i64 H] rfl rfl (QhP _ _ _ _ _ _) (Qpd _ _ _ _) ?c3 ?c4 ?c5 ?_)
    case c3=>unfold maxLen;omega
    case c4=>omega
    case c5=>simp;omega
    intro v' w5 D F _;have J:Below M.heap.size M w5:=((below_drewN HI.out.2.1 _).alloc (by show M.heap.size<=wr.heap.size;omega) _).grown F (by simp;omega) (fun z hz=>(HO.out.lt z hz).1);rw[<-ai.out] at D;have HF:=Hk (Ai D J);clear D F J;go_wp2
    go_roundg (y.length-(k+1))
    case measure=>omega
    case rel=>exact⟨k+1,N++[(a,H)],0+1,by omega,by go_num,Nat.le_refl _,HF.out.1,ae.out,HF.out.2,by rw[List.length_append,V.out];rfl⟩
   ·rw[List.concat_eq_append] at ak;subst ak;obtain⟨Z,rfl⟩:∃Z,I=Z+1:=⟨K.length,by have:=V.out;simp at this;omega⟩;have hGl':K.length=Z:=by have:=V.out;simp at this;exact this
    have hO:=HO.out;rw[<-hGl'] at hO;obtain⟨gb,rfl,cb,aq,g0,g1,g2,g3,gf⟩:=Qpc hO;rw[hGl'] at g0 g1 g2 g3;have cc:((Z+1:Nat):Int)-1=(Z:Int):=by omega
    have bF:¬((Z:Int)<0):=by omega
    have cw:decide ((Z:Int)<0)=false:=decide_eq_false bF;have HGL':=Hk hGl';have az:=Hk (QfI p q (y.take k) (fun r hr=>aa.out.2.1 r (List.mem_of_mem_take hr)) g (by rw[ac.out];simp));have b5:((y.take k).length:Int)<=100:=by rw[List.length_take];omega
    have bY: -100000000000<=g.2/\g.2<=100000000000:=by
     have h:=az.out;omega
    obtain⟨cg,cq⟩:=bY;have cB:=gf (Z*4+3);have bV:=Hk (fun(W:World) (hW:W.ownsRow M.heap.size 254 4 (.slice (some ⟨gb,0,none⟩) (Z+1) lc) (Z+1) (Qas (K++[g]))) (t:Int)=>show(W.setCell ⟨gb,Z*4+3,none⟩ (.int .i64 t)).ownsRow M.heap.size 254 4 (.slice (some ⟨gb,0,none⟩) (Z+1) lc) (Z+1) (Qas (K++[(g.1,t)])) by rw[<-hGl'] at hW⊢;exact Ql2 hW t);clear hO hGl' az b5 gf
    by_cases d0:g.1.1=a.1
    ·by_cases d1:g.1.2.1=a.2.1
     ·by_cases d2:g.1.2.2.toList=a.2.2.toList
      ·have aF:g.1=a:=Prod.ext d0 (Prod.ext d1 (Qen d2));have bE:=Hk (show Qeq p q (y.take (k+1))=K++[(a,max g.2 H)] by rw[QcG p q y k hlt,ac.out,Ql4 (by rw[ad.out];exact aF),ap.out,aF]);have bK:=Hk aF;have d0':(g.1.1==a.1)=true:=by simp[d0]
       have d1':(g.1.2.1==a.2.1)=true:=by simp[d1]
       have d2':(g.1.2.2.toList==a.2.2.toList)=true:=by simp[d2]
       clear aF;go_wp2;go_quiet (fail);go_wp2
       go_roundg (y.length-(k+1))
       case measure=>omega
       case rel=>exact⟨k+1,K++[(a,max g.2 H)],Z+1,by omega,by go_num,Nat.le_refl _,by rw[<-bK.out];exact bV.out _ (Qa3 HO.out _) _,bE.out,(below_drewN HI.out.2.1 _).setCell (by show M.heap.size<=gb;exact cb) _,by simp[HGL'.out]⟩
      ·have d0':(g.1.1==a.1)=true:=by simp[d0]
       have d1':(g.1.2.1==a.2.1)=true:=by simp[d1]
       have d2':(g.1.2.2.toList==a.2.2.toList)=false:=by simp[d2]
       have ar:=Hk (show g.1≠a from fun e=>d2 (by rw[e]));have ae:=Hk (show Qeq p q (y.take (k+1))=(K++[g])++[(a,H)] by rw[QcG p q y k hlt,ac.out,Qd4 (fun g' hg'=>by rw[ad.out];simp at hg';rw[<-hg'];exact ar.out),ad.out,ap.out]);have ai:=Hk (show Qas ((K++[g])++[(a,H)])=Qas (K++[g])++[.int .i64 a.1,.int .i64 a.2.1,.string a.2.2,.int .i64 H] by rw[QaJ];rfl);go_wp2;go_quiet (fail);go_wp2_with (at_builtin;refine wpList_append_own _ rfl _ _ 252 rfl M.heap.size 254 i0 (.agg #[.int .i64 0,.int .i64 0,.string ⟨#[]⟩,.int .i64 0]) 4 40 Tryz.underlying252 hi aC aJ aI rfl (by decide) _ _ _ rfl ((Qa3 HO.out _).alloc _) ⟨wr.heap.size,0,none⟩ 1 1 [.int .i64 a.1,.int .i64 a.2.1,.string a.2.2,.int .i64 H] rfl rfl (QhP _ _ _ _ _ _) (Qpd _ _ _ _) ?c3 ?c4 ?c5 ?_)
       case c3=>unfold maxLen;omega
       case c4=>omega
       case c5=>simp;omega
       intro v' w5 D F _;have J:Below M.heap.size M w5:=((below_drewN HI.out.2.1 _).alloc (by show M.heap.size<=wr.heap.size;omega) _).grown F (by simp;omega) (fun z hz=>(HO.out.lt z hz).1);rw[<-ai.out] at D;have HF:=Hk (Ai D J);clear D F J;go_wp2
       go_roundg (y.length-(k+1))
       case measure=>omega
       case rel=>exact⟨k+1,(K++[g])++[(a,H)],(Z+1)+1,by omega,by go_num,Nat.le_refl _,HF.out.1,ae.out,HF.out.2,by rw[List.length_append,V.out];rfl⟩
     ·have d0':(g.1.1==a.1)=true:=by simp[d0]
      have d1':(g.1.2.1==a.2.1)=false:=by simp[d1]
      have ar:=Hk (show g.1≠a from fun e=>d1 (by rw[e]));have ae:=Hk (show Qeq p q (y.take (k+1))=(K++[g])++[(a,H)] by rw[QcG p q y k hlt,ac.out,Qd4 (fun g' hg'=>by rw[ad.out];simp at hg';rw[<-hg'];exact ar.out),ad.out,ap.out]);have ai:=Hk (show Qas ((K++[g])++[(a,H)])=Qas (K++[g])++[.int .i64 a.1,.int .i64 a.2.1,.string a.2.2,.int .i64 H] by rw[QaJ];rfl);go_wp2;go_quiet (fail);go_wp2_with (at_builtin;refine wpList_append_own _ rfl _ _ 252 rfl M.heap.size 254 i0 (.agg #[.int .i64 0,.int .i64 0,.string ⟨#[]⟩,.int .i64 0]) 4 40 Tryz.underlying252 hi aC aJ aI rfl (by decide) _ _ _ rfl ((Qa3 HO.out _).alloc _) ⟨wr.heap.size,0,none⟩ 1 1 [.int .i64 a.1,.int .i64 a.2.1,.string a.2.2,.int .i64 H] rfl rfl (QhP _ _ _ _ _ _) (Qpd _ _ _ _) ?c3 ?c4 ?c5 ?_)
      case c3=>unfold maxLen;omega
      case c4=>omega
      case c5=>simp;omega
      intro v' w5 D F _;have J:Below M.heap.size M w5:=((below_drewN HI.out.2.1 _).alloc (by show M.heap.size<=wr.heap.size;omega) _).grown F (by simp;omega) (fun z hz=>(HO.out.lt z hz).1);rw[<-ai.out] at D;have HF:=Hk (Ai D J);clear D F J;go_wp2
      go_roundg (y.length-(k+1))
      case measure=>omega
      case rel=>exact⟨k+1,(K++[g])++[(a,H)],(Z+1)+1,by omega,by go_num,Nat.le_refl _,HF.out.1,ae.out,HF.out.2,by rw[List.length_append,V.out];rfl⟩
    ·have d0':(g.1.1==a.1)=false:=by simp[d0]
     have ar:=Hk (show g.1≠a from fun e=>d0 (by rw[e]));have ae:=Hk (show Qeq p q (y.take (k+1))=(K++[g])++[(a,H)] by rw[QcG p q y k hlt,ac.out,Qd4 (fun g' hg'=>by rw[ad.out];simp at hg';rw[<-hg'];exact ar.out),ad.out,ap.out]);have ai:=Hk (show Qas ((K++[g])++[(a,H)])=Qas (K++[g])++[.int .i64 a.1,.int .i64 a.2.1,.string a.2.2,.int .i64 H] by rw[QaJ];rfl);go_wp2;go_quiet (fail);go_wp2_with (at_builtin;refine wpList_append_own _ rfl _ _ 252 rfl M.heap.size 254 i0 (.agg #[.int .i64 0,.int .i64 0,.string ⟨#[]⟩,.int .i64 0]) 4 40 Tryz.underlying252 hi aC aJ aI rfl (by decide) _ _ _ rfl ((Qa3 HO.out _).alloc _) ⟨wr.heap.size,0,none⟩ 1 1 [.int .i64 a.1,.int .i64 a.2.1,.string a.2.2,.int .i64 H] rfl rfl (QhP _ _ _ _ _ _) (Qpd _ _ _ _) ?c3 ?c4 ?c5 ?_)
     case c3=>unfold maxLen;omega
     case c4=>omega
     case c5=>simp;omega
     intro v' w5 D F _;have J:Below M.heap.size M w5:=((below_drewN HI.out.2.1 _).alloc (by show M.heap.size<=wr.heap.size;omega) _).grown F (by simp;omega) (fun z hz=>(HO.out.lt z hz).1);rw[<-ai.out] at D;have HF:=Hk (Ai D J);clear D F J;go_wp2
     go_roundg (y.length-(k+1))
     case measure=>omega
     case rel=>exact⟨k+1,(K++[g])++[(a,H)],(Z+1)+1,by omega,by go_num,Nat.le_refl _,HF.out.1,ae.out,HF.out.2,by rw[List.length_append,V.out];rfl⟩
  ·have bA:¬((k:Int)<(y.length:Int)):=by omega
   have aG:=Hk (show Qeq p q y=N by rw[<-ac.out,List.take_of_length_le (by omega)]);have az:=Hk (QfI p q y (fun r hr=>aa.out.2.1 r hr));have b3:=Hk (show∀g∈N,g.1.2.2.size<=maxLen from by rw[<-aG.out];exact Ql6 p q y (fun r hr=>Qjs hp (aa.out.1 r hr) (aa.out.2.2 r hr)));rw[aG.out] at az;have cx:I<=100:=bD;obtain⟨wa,ca⟩:∃wa,wa=wr:=⟨_,rfl⟩;subst ca;have bR:=Hk (fun k (hk:k<N.length)=>QhQ HO.out V.out k hk);go_wp2
   go_loopg [15,87] I (fun g2 l2 i wr2=>∃(t:Nat) (aH:List Value),t<=I/\i=.int .i64 t/\I-t<=g2/\wr2.ownsRow wa.heap.size 84 1 l2 t aH/\Aside (Qab wr2 wa.heap.size aH (QaA (N.take t))/\Below wa.heap.size wa wr2/\∀g∈N.take t,Qaz g.2))
   case atStart=>exact⟨0,[],Nat.zero_le _,rfl,by omega,World.ownsRow_nil _ _ _ _,by simpa [QaA] using Qab.nil _ _,Below.refl _ _,by simp⟩
   case round=>
    obtain⟨t,aH,ht,rfl,cC,al,U⟩:=hrel;obtain⟨cD,cv,rfl⟩:=own_slice al;have aD:=Hk al;clear al;have ch:=U.out.2.1.size
    by_cases htl:t<I
    ·have bx:(t:Int)<(I:Int):=by omega
     have aQ:t<N.length:=by have:=V.out;omega
     obtain⟨gb,b2,aq,z0,z1,z2,z3⟩:=bR.out t aQ;subst b2;have y0:=cK U.out.2.1 aq z0;have y1:=cK U.out.2.1 aq z1;have y2:=cK U.out.2.1 aq z2;have y3:=cK U.out.2.1 aq z3;have a1:=Hk (List.getElem_mem aQ);have a2:=Hk (show N.take (t+1)=N.take t++[N[t]] from List.take_succ_eq_append_getElem aQ);generalize N[t]=g at*;clear z0 z1 z2 z3
     by_cases hin:Qaz g.2
     ·have aj:=Hk (fun W=>QfC g.2 W hin);unfold aggV at aj;have aR:=Hk hin;clear hin;go_wp2_with (first|(go_at_call 171;refine(aj.out _).mono ?_;rintro e w6 ⟨rfl,O⟩;have k0:=(O.cell (p:=⟨wr.heap.size,0,none⟩) (by simp)).trans (World.cell?_alloc_at _ _ _ _ rfl);have k1:=(O.cell (p:=⟨wr.heap.size,1,none⟩) (by simp)).trans (World.cell?_alloc_at _ _ _ _ rfl);have k2:=(O.cell (p:=⟨wr.heap.size,2,none⟩) (by simp)).trans (World.cell?_alloc_at _ _ _ _ rfl);have hs6':=O.size;simp at hs6' k0 k1 k2;have bH:wr.heap.size<w6.heap.size:=by omega)|(at_builtin;refine wpList_append_own _ rfl _ _ 52 rfl wa.heap.size 84 i1 (.slice none 0 0) 1 24 Tryz.underlying52 bM b4 bG bN rfl (by decide) _ _ _ rfl ((((owns_below (aD.out.alloc _) O).alloc _).alloc _).alloc _) ⟨w6.heap.size+1+1,0,none⟩ 1 1 [.slice (some ⟨w6.heap.size+1,0,none⟩) 2 2] rfl rfl (news1 _ _ _ _ (by simp)) (Qc2 _ _ _) ?c3 ?c4 ?c5 ?_))
      case c3=>unfold maxLen;omega
      case c4=>omega
      case c5=>simp;omega
      intro v' w5 D F _;have aP:=((((owns_below (aD.out.alloc (.cells #[.int .i64 g.1.1,.int .i64 g.1.2.1,.string g.1.2.2,.int .i64 g.2] 254)) O).alloc (.cells #[.int .i64 1,.int .i64 g.2,.string ⟨#[]⟩] 46)).alloc (.cells #[.int .i64 g.1.1,.int .i64 g.1.2.1,.string g.1.2.2,.int .i64 1,.int .i64 g.2,.string ⟨#[]⟩] 46)).alloc (.cells #[.slice (some ⟨w6.heap.size+1,0,none⟩) 2 2] 84));have J:Below wa.heap.size wa w5:=((bel_then (bel_then (bel_then (bel_then U.out.2.1 (Qaa _ (.cells #[.int .i64 g.1.1,.int .i64 g.1.2.1,.string g.1.2.2,.int .i64 g.2] 254))) O) (Qaa _ (.cells #[.int .i64 1,.int .i64 g.2,.string ⟨#[]⟩] 46))) (Qaa _ (.cells #[.int .i64 g.1.1,.int .i64 g.1.2.1,.string g.1.2.2,.int .i64 1,.int .i64 g.2,.string ⟨#[]⟩] 46))).alloc (by simp;omega) (.cells #[.slice (some ⟨w6.heap.size+1,0,none⟩) 2 2] 84)).grown F (by simp;omega) (fun z hz=>(aD.out.lt z hz).1);have bi:=(((((U.out.1.below (Qaa _ (.cells #[.int .i64 g.1.1,.int .i64 g.1.2.1,.string g.1.2.2,.int .i64 g.2] 254))).below O).below (Qaa _ (.cells #[.int .i64 1,.int .i64 g.2,.string ⟨#[]⟩] 46))).below (Qaa _ (.cells #[.int .i64 g.1.1,.int .i64 g.1.2.1,.string g.1.2.2,.int .i64 1,.int .i64 g.2,.string ⟨#[]⟩] 46))).below (Qaa _ (.cells #[.slice (some ⟨w6.heap.size+1,0,none⟩) 2 2] 84))).grow aP F;have aM:=(QhR (w6.alloc (.cells #[.int .i64 1,.int .i64 g.2,.string ⟨#[]⟩] 46)) wa.heap.size (w6.heap.size+1) g.1 (1,g.2,⟨#[]⟩) (by simp;omega) (by simp)).alloc (.cells #[.slice (some ⟨w6.heap.size+1,0,none⟩) 2 2] 84);have bm:=aM.kept F (Qb2 (by decide) aM aP);have aT:=bi.snoc (r:=[g.1,(1,g.2,⟨#[]⟩)]) bm (fun x hx=>by
       simp at hx;rcases hx with rfl|rfl
       ·exact b3.out g a1.out
       ·exact Nat.zero_le _)
      have bp:QaA (N.take t)++[[g.1,(1,g.2,⟨#[]⟩)]]=QaA (N.take (t+1)):=by rw[a2.out];simp[QaA]
      rw[bp] at aT;have HF:=Hk (Ai D (Ai aT J));have bQ:=Hk (show∀g'∈N.take (t+1),Qaz g'.2 from fun g' hg'=>by
       rw[a2.out] at hg';rcases List.mem_append.1 hg' with h|h
       ·exact U.out.2.2 g' h
       ·simp at h;rw[h];exact aR.out)
      clear D F aT J bi bm aP aM bp;go_wp2
      go_roundg (I-(t+1))
      case measure=>omega
      case rel=>exact⟨t+1,_,by omega,by go_num,Nat.le_refl _,HF.out.1,HF.out.2.1,HF.out.2.2,bQ.out⟩
     ·have aj:=Hk (fun W=>Qeo g.2 W hin);unfold aggV at aj;simp only[Qjt] at aj;have aR:=Hk hin;clear hin;go_wp2_with (go_at_call 171;refine(aj.out _).mono ?_;rintro e w6 ⟨rfl,O⟩;have k0:=(O.cell (p:=⟨wr.heap.size,0,none⟩) (by simp)).trans (World.cell?_alloc_at _ _ _ _ rfl);have k1:=(O.cell (p:=⟨wr.heap.size,1,none⟩) (by simp)).trans (World.cell?_alloc_at _ _ _ _ rfl);have k2:=(O.cell (p:=⟨wr.heap.size,2,none⟩) (by simp)).trans (World.cell?_alloc_at _ _ _ _ rfl);have hs6':=O.size;simp at hs6' k0 k1 k2;have bH:wr.heap.size<w6.heap.size:=by omega);refine bodyPost_ret (by simp[results,Tryz.results148,go_sem];rfl) rfl ?_;rw[<-a5.out,aG.out];refine⟨au.out.trans ((bel_then (bel_then (bel_then (bel_then HI.out.2.1 U.out.2.1) (Qaa _ _)) O) (Qaa _ _)).mono aU),bo.out.below (bel_then (bel_then (bel_then (bel_then HI.out.2.1 U.out.2.1) (Qaa _ _)) O) (Qaa _ _)) au.out.size,Or.inr ⟨fun h=>aR.out (h g a1.out),rfl⟩⟩
    ·have bx:¬((t:Int)<(I:Int)):=by omega
     have bh:=Hk (show N.take t=N from List.take_of_length_le (by have:=V.out;omega));have bj:t=I:=by omega
     have bX:=Hk (show(QaA N).length=t by unfold QaA;rw[List.length_map,V.out,bj]);go_wp2;refine bodyPost_ret (by simp[results,Tryz.results148,go_sem];rfl) rfl ?_;rw[<-a5.out,aG.out,bX.out];refine⟨au.out.trans ((bel_then HI.out.2.1 U.out.2.1).mono aU),bo.out.below (bel_then HI.out.2.1 U.out.2.1) au.out.size,Or.inl ⟨fun a b c n hg=>U.out.2.2 ((a,b,c),n) (by rw[bh.out];exact hg),_,rfl,aH,(by have h:=aD.out;rw[bj] at h⊢;exact own_mono (show B<=wa.heap.size by omega) h),?_⟩⟩;have h:=U.out.1;rw[bh.out] at h;exact h.mono (by omega)
end Go.Proofs.YtjlgejennghhlaaGreatDoor
