import Derived.Test.YtjlgejennghhlaaGreatDoorR01
import Derived.Test.YtjlgejennghhlaaGreatDoorR33
set_option linter.unusedSimpArgs false
set_option linter.unusedVariables false
set_option linter.unusedSectionVars false
set_option maxRecDepth 1000000
set_option maxHeartbeats 16000000
namespace Go.Proofs.YtjlgejennghhlaaGreatDoor
open Go.RowKit
def Qc6 (p q:Nat) (gs:List Gr) (r:List Vl):List Gr:=
 match gs.getLast? with
 |none=>[(vAt r p,(vAt r q).2.1)]
 |some g=>if g.1=vAt r p then gs.dropLast++[(g.1,max g.2 (vAt r q).2.1)] else gs++[(vAt r p,(vAt r q).2.1)]
def Qev (p q:Nat) (rs:List (List Vl)):List Gr:=rs.foldl (Qc6 p q) []
theorem Qea {p q:Nat} {y:List Gr} {r:List Vl} (h:∀g,y.getLast? =some g->g.1≠vAt r p):Qc6 p q y r=y++[(vAt r p,(vAt r q).2.1)]:=by
 unfold Qc6
 cases e:y.getLast? with
 |none=>rw[List.getLast?_eq_none_iff] at e;subst e;rfl
 |some g=>simp only[];rw[if_neg (h g e)]
theorem Qmi {p q:Nat} {y:List Gr} {g:Gr} {r:List Vl} (h:g.1=vAt r p):Qc6 p q (y++[g]) r=y++[(g.1,max g.2 (vAt r q).2.1)]:=by
 unfold Qc6;simp[h]
theorem Qmj (p q:Nat) (h:List Gr) (r:List Vl):(Qc6 p q h r).length<=h.length+1:=by
 unfold Qc6
 cases e:h.getLast? with
 |none=>simp
 |some g=>
  simp only[];split
  ·simp
  ·simp
theorem QcK (p q:Nat) (rs:List (List Vl)) (k:Nat) (h:k<rs.length):Qev p q (rs.take (k+1))=Qc6 p q (Qev p q (rs.take k)) rs[k]:=by
 unfold Qev;rw[List.take_succ_eq_append_getElem h,List.foldl_append];rfl
theorem QfK (p q:Nat) (rs:List (List Vl)):(Qev p q rs).length<=rs.length:=by
 have y:∀(l:List (List Vl)) (acc:List Gr),(l.foldl (Qc6 p q) acc).length<=acc.length+l.length:=by
  intro l
  induction l with
  |nil=>intro acc;simp
  |cons r l ih=>
   intro acc;have E:=ih (Qc6 p q acc r);have D:=Qmj p q acc r;simp only[List.foldl_cons,List.length_cons];omega
 have h:=y rs [];rw[List.length_nil,Nat.zero_add] at h;exact h
theorem QfL (p q:Nat) (rs:List (List Vl)) (I:∀r∈rs,Qaz (vAt r q).2.1):∀g∈Qev p q rs,-(1000000000*(rs.length:Int))<=g.2/\g.2<=1000000000*(rs.length:Int):=by
 have E:∀(l:List (List Vl)) (acc:List Gr) (N:Int),0<=N->(∀r∈l,Qaz (vAt r q).2.1)->(∀g∈acc,-(1000000000*N)<=g.2/\g.2<=1000000000*N)->∀g∈l.foldl (Qc6 p q) acc,-(1000000000*(N+(l.length:Int)))<=g.2/\g.2<=1000000000*(N+(l.length:Int)):=by
  intro l
  induction l with
  |nil=>intro acc N _ _ h g D;simpa using h g D
  |cons r l ih=>
   intro acc N K H h g D;have F:=H r (by simp);unfold Qaz at F;have h':=ih (Qc6 p q acc r) (N+1) (by omega) (fun x hx=>H x (by simp[hx])) (fun g' y=>by
    unfold Qc6 at y
    cases e:acc.getLast? with
    |none=>
     rw[e] at y;simp at y;rw[y];simp only;omega
    |some g0=>
     rw[e] at y;simp only[] at y;have J:=h g0 (List.mem_of_getLast? e);split at y
     ·rcases List.mem_append.1 y with y|y
      ·have:=h g' ((List.dropLast_sublist _).subset y);omega
      ·simp at y;rw[y];simp only;omega
     ·rcases List.mem_append.1 y with y|y
      ·have:=h g' y;omega
      ·simp at y;rw[y];simp only;omega) g (by simpa using D)
   simp only[List.length_cons];push_cast;omega
 intro g D;have:=E rs [] 0 (by omega) I (fun g D=>by simp at D) g D;simpa using this
theorem Qmk (p q:Nat) (rs:List (List Vl)) (h:∀r∈rs,(vAt r p).2.2.size<=maxLen):∀g∈Qev p q rs,g.1.2.2.size<=maxLen:=by
 have H:∀(l:List (List Vl)) (acc:List Gr),(∀r∈l,(vAt r p).2.2.size<=maxLen)->(∀g∈acc,g.1.2.2.size<=maxLen)->∀g∈l.foldl (Qc6 p q) acc,g.1.2.2.size<=maxLen:=by
  intro l
  induction l with
  |nil=>intro acc _ h g D;exact h g D
  |cons r l ih=>
   intro acc F E g D;refine ih (Qc6 p q acc r) (fun x hx=>F x (by simp[hx])) (fun g' y=>?_) g D;unfold Qc6 at y
   cases e:acc.getLast? with
   |none=>
    rw[e] at y;simp at y;rw[y];exact F r (by simp)
   |some g0=>
    rw[e] at y;simp only[] at y;split at y
    ·rcases List.mem_append.1 y with y|y
     ·exact E g' ((List.dropLast_sublist _).subset y)
     ·simp at y;rw[y];exact E g0 (List.mem_of_getLast? e)
    ·rcases List.mem_append.1 y with y|y
     ·exact E g' y
     ·simp at y;rw[y];exact F r (by simp)
 exact H rs [] h (fun g D=>by simp at D)
theorem QfM (v:Value) (us:List Value) (rs:List (List Vl)) (B m p q:Nat) (w:World) (hv:w.ownsRow B 84 1 v rs.length us) (hH:Qab w B us rs) (hl:∀r∈rs,r.length=m) (h1:1<=m) (h6:m<=100) (bK:rs.length<=100) (hp:p<m) (hq:q<m) (aU:∀r∈rs,Qaz (vAt r q).2.1) (a3:∀r∈rs,∀x∈r,x.2.2.size<=maxLen) (a9:B<=w.heap.size):
 Calls Tryz.prog 148 #[v,.int .i64 p,.int .i64 q,.string ⟨#[109,97,120]⟩] w fun e w'=>Below B w w'/\Kept v w w'/\(((∀g∈Qev p q (Qa9 [p] rs),Qaz g.2)/\∃v' us',e=.returned (.tuple #[v',.nilIface])/\w'.ownsRow B 84 1 v' (QaA (Qev p q (Qa9 [p] rs))).length us'/\Qab w' B us' (QaA (Qev p q (Qa9 [p] rs))))\/((¬∀g∈Qev p q (Qa9 [p] rs),Qaz g.2)/\e=.returned (.tuple #[.slice none 0 0,QbN 2]))):=by
 obtain⟨i0,hi,aB,aI,aH⟩:=info_parts Tryz.infoGrp;obtain⟨i1,bL,b3,bF,bM⟩:=info_parts Tryz.infoRow;have bj:(w.alloc (.cells #[.int .i64 p] 3)).ownsRow w.heap.size 3 1 (.slice (some ⟨w.heap.size,0,none⟩) 1 1) 1 (intCells [p]):=⟨by simp[intCells],Or.inr ⟨w.heap.size,1,#[.int .i64 p],rfl,Nat.le_refl _,by show(w.heap.push _)[w.heap.size]? =_;simp,by omega,by unfold maxLen;omega,by simp,by simp[intCells]⟩⟩;have bm:=Hk (QfI v (.slice (some ⟨w.heap.size,0,none⟩) 1 1) us rs B w.heap.size m [p] (w.alloc (.cells #[.int .i64 p] 3)) (hv.alloc _) (hH.below (Qaa _ _)) hl h1 h6 bK bj (by simp) (by simp) (by simpa using hp) (by simp;omega));have aD:=Hk (Ai hl (Ai aU a3));obtain⟨va,a8,rfl⟩:=own_slice hv;clear bj hv hH hl aU a3;go_enter Tryz.func148,Tryz.ntmps148;go_wp2_with (go_at_call 144;fail);refine bm.out.mono ?_;rintro e K ⟨cz,y,rfl,q1,q2,be,a2,bp,a5⟩;have au:y=Qa9 [p] rs:=Stb.sortL_is (Qjz [p]) q1 q2;have aN:y.length=rs.length:=by rw[au,QbJ]
 have a4:=Hk au;have aA:∀r∈y,r∈rs:=fun r hr=>(q2.mem (Qjz [p])).2 hr
 have Z:=Hk (show(∀r∈y,r.length=m)/\(∀r∈y,Qaz (vAt r q).2.1)/\(∀r∈y,∀x∈r,x.2.2.size<=maxLen) from⟨fun r hr=>aD.out.1 r (aA r hr),fun r hr=>aD.out.2.1 r (aA r hr),fun r hr=>aD.out.2.2 r (aA r hr)⟩);have ar:=Hk (show Below B w K from((Below.refl _ _).alloc a9 _).trans bp);have bd:=Hk (show QaG K (.slice va rs.length a8) y from QbX (by rw[aN];exact be) a2);have bn:=Hk (show Kept (.slice va rs.length a8) w K from fun p hp hne=>(a5 p (by simp;omega) hne).trans ((Qaa w _).cell hp));rw[<-aN] at bd⊢;have h60':y.length<=100:=by omega
 have aT:B<=K.heap.size:=Nat.le_trans a9 (by have:=ar.out.size;omega);clear au aN aA q1 q2 be a2 bp a5 bm aD;go_wp2
 go_loopg [10,25] y.length (fun g1 l i wr=>∃(k:Nat) (M:List Gr) (H:Nat),k<=y.length/\i=.int .i64 k/\y.length-k<=g1/\wr.ownsRow K.heap.size 254 4 l H (Qas M)/\Aside (Qev p q (y.take k)=M/\Below K.heap.size K wr/\M.length=H))
 case atStart=>exact⟨0,[],0,Nat.zero_le _,rfl,by omega,World.ownsRow_nil _ _ _ _,rfl,Below.refl _ _,rfl⟩
 case round=>
  obtain⟨k,M,H,hk,rfl,hg,av,HI⟩:=hrel;obtain⟨la,lc,rfl⟩:=own_slice av;have HO:=Hk av;have ab:=Hk HI.out.1;have U:=Hk HI.out.2.2;have cx:=HI.out.2.1.size;have bC:H<=100:=by have h1:=QfK p q (y.take k);rw[ab.out,List.length_take] at h1;have:=U.out;omega
  clear av
  by_cases hlt:k<y.length
  ·have bz:(k:Int)<(y.length:Int):=by omega
   obtain⟨b1,o1,c1,a6,br,aR⟩:=QhY bd.out (by omega);simp only[Value.slice.injEq,true_and] at a6;obtain⟨rfl,rfl⟩:=a6;obtain⟨xb,xo,xc,aZ,a7,ax⟩:=Qmh aR hlt (Z.out.1 _ (List.getElem_mem hlt)) h1;have hxu':=cK HI.out.2.1 br aZ;obtain⟨e0,e1,e2⟩:=(ax.below HI.out.2.1 a7) p (by rw[Z.out.1 _ (List.getElem_mem hlt)];exact hp);obtain⟨-,f1,-⟩:=(ax.below HI.out.2.1 a7) q (by rw[Z.out.1 _ (List.getElem_mem hlt)];exact hq);have HRA':=Hk (Qdh (r:=y[k]) (k:=p) (by rw[Z.out.1 _ (List.getElem_mem hlt)];exact hp));have HRN':=Hk (Qdh (r:=y[k]) (k:=q) (by rw[Z.out.1 _ (List.getElem_mem hlt)];exact hq));have bf:=Hk (Z.out.2.1 _ (List.getElem_mem hlt));obtain⟨a,ha⟩:∃a,vAt y[k] p=a:=⟨_,rfl⟩;obtain⟨F,az⟩:∃n,(vAt y[k] q).2.1=n:=⟨_,rfl⟩;rw[<-HRA'.out,ha] at e0 e1 e2;rw[<-HRN'.out,az] at f1;have ac:=Hk ha;have ao:=Hk az;have bb:Qaz F:=by have:=bf.out;rw[az] at this;exact this
   unfold Qaz at bb;obtain⟨cm,ci⟩:=bb;have cy:(p:Int)<(m:Int):=by omega
   have ct:(q:Int)<(m:Int):=by omega
   clear aZ aR ax ha az HRA' HRN' bf;rcases List.eq_nil_or_concat M with aj|⟨J,g,aj⟩
   ·have bY:H=0:=by rw[<-U.out,aj];rfl
    subst bY;have bs:=Hk aj;clear aj;have ad:=Hk (show Qev p q (y.take (k+1))=M++[(a,F)] by rw[QcK p q y k hlt,ab.out,Qea (fun g' hg'=>by rw[bs.out] at hg';simp at hg'),ac.out,ao.out]);have ah:=Hk (show Qas (M++[(a,F)])=Qas M++[.int .i64 a.1,.int .i64 a.2.1,.string a.2.2,.int .i64 F] by rw[QaJ];rfl);go_wp2;go_quiet (fail);go_wp2_with (at_builtin;refine wpList_append_own _ rfl _ _ 252 rfl K.heap.size 254 i0 (.agg #[.int .i64 0,.int .i64 0,.string ⟨#[]⟩,.int .i64 0]) 4 40 Tryz.underlying252 hi aB aI aH rfl (by decide) _ _ _ rfl ((Qa5 HO.out _).alloc _) ⟨wr.heap.size,0,none⟩ 1 1 [.int .i64 a.1,.int .i64 a.2.1,.string a.2.2,.int .i64 F] rfl rfl (QhV _ _ _ _ _ _) (Qpj _ _ _ _) ?c3 ?c4 ?c5 ?_)
    case c3=>unfold maxLen;omega
    case c4=>omega
    case c5=>simp;omega
    intro v' w5 D E _;have I:Below K.heap.size K w5:=((below_drewN HI.out.2.1 _).alloc (by show K.heap.size<=wr.heap.size;omega) _).grown E (by simp;omega) (fun z hz=>(HO.out.lt z hz).1);rw[<-ah.out] at D;have HF:=Hk (Ai D I);clear D E I;go_wp2
    go_roundg (y.length-(k+1))
    case measure=>omega
    case rel=>exact⟨k+1,M++[(a,F)],0+1,by omega,by go_num,Nat.le_refl _,HF.out.1,ad.out,HF.out.2,by rw[List.length_append,U.out];rfl⟩
   ·rw[List.concat_eq_append] at aj;subst aj;obtain⟨V,rfl⟩:∃V,H=V+1:=⟨J.length,by have:=U.out;simp at this;omega⟩;have hGl':J.length=V:=by have:=U.out;simp at this;exact this
    have hO:=HO.out;rw[<-hGl'] at hO;obtain⟨gb,rfl,ca,ap,g0,g1,g2,g3,gf⟩:=Qpi hO;rw[hGl'] at g0 g1 g2 g3;have cb:((V+1:Nat):Int)-1=(V:Int):=by omega
    have bE:¬((V:Int)<0):=by omega
    have cv:decide ((V:Int)<0)=false:=decide_eq_false bE;have HGL':=Hk hGl';have ay:=Hk (QfL p q (y.take k) (fun r hr=>Z.out.2.1 r (List.mem_of_mem_take hr)) g (by rw[ab.out];simp));have b4:((y.take k).length:Int)<=100:=by rw[List.length_take];omega
    have bX: -100000000000<=g.2/\g.2<=100000000000:=by
     have h:=ay.out;omega
    obtain⟨cf,cp⟩:=bX;have cA:=gf (V*4+3);have bU:=Hk (fun(W:World) (hW:W.ownsRow K.heap.size 254 4 (.slice (some ⟨gb,0,none⟩) (V+1) lc) (V+1) (Qas (J++[g]))) (t:Int)=>show(W.setCell ⟨gb,V*4+3,none⟩ (.int .i64 t)).ownsRow K.heap.size 254 4 (.slice (some ⟨gb,0,none⟩) (V+1) lc) (V+1) (Qas (J++[(g.1,t)])) by rw[<-hGl'] at hW⊢;exact Qmg hW t);clear hO hGl' ay b4 gf
    by_cases d0:g.1.1=a.1
    ·by_cases d1:g.1.2.1=a.2.1
     ·by_cases d2:g.1.2.2.toList=a.2.2.toList
      ·have aE:g.1=a:=Prod.ext d0 (Prod.ext d1 (Qes d2));have bD:=Hk (show Qev p q (y.take (k+1))=J++[(a,max g.2 F)] by rw[QcK p q y k hlt,ab.out,Qmi (by rw[ac.out];exact aE),ao.out,aE]);have bJ:=Hk aE;have d0':(g.1.1==a.1)=true:=by simp[d0]
       have d1':(g.1.2.1==a.2.1)=true:=by simp[d1]
       have d2':(g.1.2.2.toList==a.2.2.toList)=true:=by simp[d2]
       clear aE;go_wp2;go_quiet (fail);go_wp2
       go_roundg (y.length-(k+1))
       case measure=>omega
       case rel=>exact⟨k+1,J++[(a,max g.2 F)],V+1,by omega,by go_num,Nat.le_refl _,by rw[<-bJ.out];exact bU.out _ (Qa5 HO.out _) _,bD.out,(below_drewN HI.out.2.1 _).setCell (by show K.heap.size<=gb;exact ca) _,by simp[HGL'.out]⟩
      ·have d0':(g.1.1==a.1)=true:=by simp[d0]
       have d1':(g.1.2.1==a.2.1)=true:=by simp[d1]
       have d2':(g.1.2.2.toList==a.2.2.toList)=false:=by simp[d2]
       have aq:=Hk (show g.1≠a from fun e=>d2 (by rw[e]));have ad:=Hk (show Qev p q (y.take (k+1))=(J++[g])++[(a,F)] by rw[QcK p q y k hlt,ab.out,Qea (fun g' hg'=>by rw[ac.out];simp at hg';rw[<-hg'];exact aq.out),ac.out,ao.out]);have ah:=Hk (show Qas ((J++[g])++[(a,F)])=Qas (J++[g])++[.int .i64 a.1,.int .i64 a.2.1,.string a.2.2,.int .i64 F] by rw[QaJ];rfl);go_wp2;go_quiet (fail);go_wp2_with (at_builtin;refine wpList_append_own _ rfl _ _ 252 rfl K.heap.size 254 i0 (.agg #[.int .i64 0,.int .i64 0,.string ⟨#[]⟩,.int .i64 0]) 4 40 Tryz.underlying252 hi aB aI aH rfl (by decide) _ _ _ rfl ((Qa5 HO.out _).alloc _) ⟨wr.heap.size,0,none⟩ 1 1 [.int .i64 a.1,.int .i64 a.2.1,.string a.2.2,.int .i64 F] rfl rfl (QhV _ _ _ _ _ _) (Qpj _ _ _ _) ?c3 ?c4 ?c5 ?_)
       case c3=>unfold maxLen;omega
       case c4=>omega
       case c5=>simp;omega
       intro v' w5 D E _;have I:Below K.heap.size K w5:=((below_drewN HI.out.2.1 _).alloc (by show K.heap.size<=wr.heap.size;omega) _).grown E (by simp;omega) (fun z hz=>(HO.out.lt z hz).1);rw[<-ah.out] at D;have HF:=Hk (Ai D I);clear D E I;go_wp2
       go_roundg (y.length-(k+1))
       case measure=>omega
       case rel=>exact⟨k+1,(J++[g])++[(a,F)],(V+1)+1,by omega,by go_num,Nat.le_refl _,HF.out.1,ad.out,HF.out.2,by rw[List.length_append,U.out];rfl⟩
     ·have d0':(g.1.1==a.1)=true:=by simp[d0]
      have d1':(g.1.2.1==a.2.1)=false:=by simp[d1]
      have aq:=Hk (show g.1≠a from fun e=>d1 (by rw[e]));have ad:=Hk (show Qev p q (y.take (k+1))=(J++[g])++[(a,F)] by rw[QcK p q y k hlt,ab.out,Qea (fun g' hg'=>by rw[ac.out];simp at hg';rw[<-hg'];exact aq.out),ac.out,ao.out]);have ah:=Hk (show Qas ((J++[g])++[(a,F)])=Qas (J++[g])++[.int .i64 a.1,.int .i64 a.2.1,.string a.2.2,.int .i64 F] by rw[QaJ];rfl);go_wp2;go_quiet (fail);go_wp2_with (at_builtin;refine wpList_append_own _ rfl _ _ 252 rfl K.heap.size 254 i0 (.agg #[.int .i64 0,.int .i64 0,.string ⟨#[]⟩,.int .i64 0]) 4 40 Tryz.underlying252 hi aB aI aH rfl (by decide) _ _ _ rfl ((Qa5 HO.out _).alloc _) ⟨wr.heap.size,0,none⟩ 1 1 [.int .i64 a.1,.int .i64 a.2.1,.string a.2.2,.int .i64 F] rfl rfl (QhV _ _ _ _ _ _) (Qpj _ _ _ _) ?c3 ?c4 ?c5 ?_)
      case c3=>unfold maxLen;omega
      case c4=>omega
      case c5=>simp;omega
      intro v' w5 D E _;have I:Below K.heap.size K w5:=((below_drewN HI.out.2.1 _).alloc (by show K.heap.size<=wr.heap.size;omega) _).grown E (by simp;omega) (fun z hz=>(HO.out.lt z hz).1);rw[<-ah.out] at D;have HF:=Hk (Ai D I);clear D E I;go_wp2
      go_roundg (y.length-(k+1))
      case measure=>omega
      case rel=>exact⟨k+1,(J++[g])++[(a,F)],(V+1)+1,by omega,by go_num,Nat.le_refl _,HF.out.1,ad.out,HF.out.2,by rw[List.length_append,U.out];rfl⟩
    ·have d0':(g.1.1==a.1)=false:=by simp[d0]
     have aq:=Hk (show g.1≠a from fun e=>d0 (by rw[e]));have ad:=Hk (show Qev p q (y.take (k+1))=(J++[g])++[(a,F)] by rw[QcK p q y k hlt,ab.out,Qea (fun g' hg'=>by rw[ac.out];simp at hg';rw[<-hg'];exact aq.out),ac.out,ao.out]);have ah:=Hk (show Qas ((J++[g])++[(a,F)])=Qas (J++[g])++[.int .i64 a.1,.int .i64 a.2.1,.string a.2.2,.int .i64 F] by rw[QaJ];rfl);go_wp2;go_quiet (fail);go_wp2_with (at_builtin;refine wpList_append_own _ rfl _ _ 252 rfl K.heap.size 254 i0 (.agg #[.int .i64 0,.int .i64 0,.string ⟨#[]⟩,.int .i64 0]) 4 40 Tryz.underlying252 hi aB aI aH rfl (by decide) _ _ _ rfl ((Qa5 HO.out _).alloc _) ⟨wr.heap.size,0,none⟩ 1 1 [.int .i64 a.1,.int .i64 a.2.1,.string a.2.2,.int .i64 F] rfl rfl (QhV _ _ _ _ _ _) (Qpj _ _ _ _) ?c3 ?c4 ?c5 ?_)
     case c3=>unfold maxLen;omega
     case c4=>omega
     case c5=>simp;omega
     intro v' w5 D E _;have I:Below K.heap.size K w5:=((below_drewN HI.out.2.1 _).alloc (by show K.heap.size<=wr.heap.size;omega) _).grown E (by simp;omega) (fun z hz=>(HO.out.lt z hz).1);rw[<-ah.out] at D;have HF:=Hk (Ai D I);clear D E I;go_wp2
     go_roundg (y.length-(k+1))
     case measure=>omega
     case rel=>exact⟨k+1,(J++[g])++[(a,F)],(V+1)+1,by omega,by go_num,Nat.le_refl _,HF.out.1,ad.out,HF.out.2,by rw[List.length_append,U.out];rfl⟩
  ·have bz:¬((k:Int)<(y.length:Int)):=by omega
   have aF:=Hk (show Qev p q y=M by rw[<-ab.out,List.take_of_length_le (by omega)]);have ay:=Hk (QfL p q y (fun r hr=>Z.out.2.1 r hr));have b2:=Hk (show∀g∈M,g.1.2.2.size<=maxLen from by rw[<-aF.out];exact Qmk p q y (fun r hr=>QjG hp (Z.out.1 r hr) (Z.out.2.2 r hr)));rw[aF.out] at ay;have cw:H<=100:=bC;obtain⟨wa,b9⟩:∃wa,wa=wr:=⟨_,rfl⟩;subst b9;have bQ:=Hk (fun k (hk:k<M.length)=>QhW HO.out U.out k hk);go_wp2
   go_loopg [15,87] H (fun g2 l2 i wr2=>∃(t:Nat) (aG:List Value),t<=H/\i=.int .i64 t/\H-t<=g2/\wr2.ownsRow wa.heap.size 84 1 l2 t aG/\Aside (Qab wr2 wa.heap.size aG (QaA (M.take t))/\Below wa.heap.size wa wr2/\∀g∈M.take t,Qaz g.2))
   case atStart=>exact⟨0,[],Nat.zero_le _,rfl,by omega,World.ownsRow_nil _ _ _ _,by simpa [QaA] using Qab.nil _ _,Below.refl _ _,by simp⟩
   case round=>
    obtain⟨t,aG,ht,rfl,cB,ak,O⟩:=hrel;obtain⟨cC,cu,rfl⟩:=own_slice ak;have aC:=Hk ak;clear ak;have cg:=O.out.2.1.size
    by_cases htl:t<H
    ·have bw:(t:Int)<(H:Int):=by omega
     have aP:t<M.length:=by have:=U.out;omega
     obtain⟨gb,b0,ap,z0,z1,z2,z3⟩:=bQ.out t aP;subst b0;have y0:=cK O.out.2.1 ap z0;have y1:=cK O.out.2.1 ap z1;have y2:=cK O.out.2.1 ap z2;have y3:=cK O.out.2.1 ap z3;have a0:=Hk (List.getElem_mem aP);have a1:=Hk (show M.take (t+1)=M.take t++[M[t]] from List.take_succ_eq_append_getElem aP);generalize M[t]=g at*;clear z0 z1 z2 z3
     by_cases hin:Qaz g.2
     ·have ai:=Hk (fun W=>QfF g.2 W hin);unfold aggV at ai;have aQ:=Hk hin;clear hin;go_wp2_with (first|(go_at_call 171;refine(ai.out _).mono ?_;rintro e w6 ⟨rfl,N⟩;have k0:=(N.cell (p:=⟨wr.heap.size,0,none⟩) (by simp)).trans (World.cell?_alloc_at _ _ _ _ rfl);have k1:=(N.cell (p:=⟨wr.heap.size,1,none⟩) (by simp)).trans (World.cell?_alloc_at _ _ _ _ rfl);have k2:=(N.cell (p:=⟨wr.heap.size,2,none⟩) (by simp)).trans (World.cell?_alloc_at _ _ _ _ rfl);have hs6':=N.size;simp at hs6' k0 k1 k2;have bG:wr.heap.size<w6.heap.size:=by omega)|(at_builtin;refine wpList_append_own _ rfl _ _ 52 rfl wa.heap.size 84 i1 (.slice none 0 0) 1 24 Tryz.underlying52 bL b3 bF bM rfl (by decide) _ _ _ rfl ((((owns_below (aC.out.alloc _) N).alloc _).alloc _).alloc _) ⟨w6.heap.size+1+1,0,none⟩ 1 1 [.slice (some ⟨w6.heap.size+1,0,none⟩) 2 2] rfl rfl (news1 _ _ _ _ (by simp)) (Qc4 _ _ _) ?c3 ?c4 ?c5 ?_))
      case c3=>unfold maxLen;omega
      case c4=>omega
      case c5=>simp;omega
      intro v' w5 D E _;have aO:=((((owns_below (aC.out.alloc (.cells #[.int .i64 g.1.1,.int .i64 g.1.2.1,.string g.1.2.2,.int .i64 g.2] 254)) N).alloc (.cells #[.int .i64 1,.int .i64 g.2,.string ⟨#[]⟩] 46)).alloc (.cells #[.int .i64 g.1.1,.int .i64 g.1.2.1,.string g.1.2.2,.int .i64 1,.int .i64 g.2,.string ⟨#[]⟩] 46)).alloc (.cells #[.slice (some ⟨w6.heap.size+1,0,none⟩) 2 2] 84));have I:Below wa.heap.size wa w5:=((bel_then (bel_then (bel_then (bel_then O.out.2.1 (Qaa _ (.cells #[.int .i64 g.1.1,.int .i64 g.1.2.1,.string g.1.2.2,.int .i64 g.2] 254))) N) (Qaa _ (.cells #[.int .i64 1,.int .i64 g.2,.string ⟨#[]⟩] 46))) (Qaa _ (.cells #[.int .i64 g.1.1,.int .i64 g.1.2.1,.string g.1.2.2,.int .i64 1,.int .i64 g.2,.string ⟨#[]⟩] 46))).alloc (by simp;omega) (.cells #[.slice (some ⟨w6.heap.size+1,0,none⟩) 2 2] 84)).grown E (by simp;omega) (fun z hz=>(aC.out.lt z hz).1);have bh:=(((((O.out.1.below (Qaa _ (.cells #[.int .i64 g.1.1,.int .i64 g.1.2.1,.string g.1.2.2,.int .i64 g.2] 254))).below N).below (Qaa _ (.cells #[.int .i64 1,.int .i64 g.2,.string ⟨#[]⟩] 46))).below (Qaa _ (.cells #[.int .i64 g.1.1,.int .i64 g.1.2.1,.string g.1.2.2,.int .i64 1,.int .i64 g.2,.string ⟨#[]⟩] 46))).below (Qaa _ (.cells #[.slice (some ⟨w6.heap.size+1,0,none⟩) 2 2] 84))).grow aO E;have aL:=(QhX (w6.alloc (.cells #[.int .i64 1,.int .i64 g.2,.string ⟨#[]⟩] 46)) wa.heap.size (w6.heap.size+1) g.1 (1,g.2,⟨#[]⟩) (by simp;omega) (by simp)).alloc (.cells #[.slice (some ⟨w6.heap.size+1,0,none⟩) 2 2] 84);have bk:=aL.kept E (Qb4 (by decide) aL aO);have aS:=bh.snoc (r:=[g.1,(1,g.2,⟨#[]⟩)]) bk (fun x hx=>by
       simp at hx;rcases hx with rfl|rfl
       ·exact b2.out g a0.out
       ·exact Nat.zero_le _)
      have bo:QaA (M.take t)++[[g.1,(1,g.2,⟨#[]⟩)]]=QaA (M.take (t+1)):=by rw[a1.out];simp[QaA]
      rw[bo] at aS;have HF:=Hk (Ai D (Ai aS I));have bP:=Hk (show∀g'∈M.take (t+1),Qaz g'.2 from fun g' hg'=>by
       rw[a1.out] at hg';rcases List.mem_append.1 hg' with h|h
       ·exact O.out.2.2 g' h
       ·simp at h;rw[h];exact aQ.out)
      clear D E aS I bh bk aO aL bo;go_wp2
      go_roundg (H-(t+1))
      case measure=>omega
      case rel=>exact⟨t+1,_,by omega,by go_num,Nat.le_refl _,HF.out.1,HF.out.2.1,HF.out.2.2,bP.out⟩
     ·have ai:=Hk (fun W=>Qet g.2 W hin);unfold aggV at ai;simp only[QjH] at ai;have aQ:=Hk hin;clear hin;go_wp2_with (go_at_call 171;refine(ai.out _).mono ?_;rintro e w6 ⟨rfl,N⟩;have k0:=(N.cell (p:=⟨wr.heap.size,0,none⟩) (by simp)).trans (World.cell?_alloc_at _ _ _ _ rfl);have k1:=(N.cell (p:=⟨wr.heap.size,1,none⟩) (by simp)).trans (World.cell?_alloc_at _ _ _ _ rfl);have k2:=(N.cell (p:=⟨wr.heap.size,2,none⟩) (by simp)).trans (World.cell?_alloc_at _ _ _ _ rfl);have hs6':=N.size;simp at hs6' k0 k1 k2;have bG:wr.heap.size<w6.heap.size:=by omega);refine bodyPost_ret (by simp[results,Tryz.results148,go_sem];rfl) rfl ?_;rw[<-a4.out,aF.out];refine⟨ar.out.trans ((bel_then (bel_then (bel_then (bel_then HI.out.2.1 O.out.2.1) (Qaa _ _)) N) (Qaa _ _)).mono aT),bn.out.below (bel_then (bel_then (bel_then (bel_then HI.out.2.1 O.out.2.1) (Qaa _ _)) N) (Qaa _ _)) ar.out.size,Or.inr ⟨fun h=>aQ.out (h g a0.out),rfl⟩⟩
    ·have bw:¬((t:Int)<(H:Int)):=by omega
     have bg:=Hk (show M.take t=M from List.take_of_length_le (by have:=U.out;omega));have bi:t=H:=by omega
     have bW:=Hk (show(QaA M).length=t by unfold QaA;rw[List.length_map,U.out,bi]);go_wp2;refine bodyPost_ret (by simp[results,Tryz.results148,go_sem];rfl) rfl ?_;rw[<-a4.out,aF.out,bW.out];refine⟨ar.out.trans ((bel_then HI.out.2.1 O.out.2.1).mono aT),bn.out.below (bel_then HI.out.2.1 O.out.2.1) ar.out.size,Or.inl ⟨fun a b c n hg=>O.out.2.2 ((a,b,c),n) (by rw[bg.out];exact hg),_,rfl,aG,(by have h:=aC.out;rw[bi] at h⊢;exact own_mono (show B<=wa.heap.size by omega) h),?_⟩⟩;have h:=O.out.1;rw[bg.out] at h;exact h.mono (by omega)
end Go.Proofs.YtjlgejennghhlaaGreatDoor
