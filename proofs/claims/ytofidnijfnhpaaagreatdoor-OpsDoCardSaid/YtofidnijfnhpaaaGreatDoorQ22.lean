import Derived.Test.YtofidnijfnhpaaaGreatDoorQ01
import Derived.Test.YtofidnijfnhpaaaGreatDoorQ18
import Derived.Test.YtofidnijfnhpaaaGreatDoorQ19
set_option linter.unusedSimpArgs false
set_option linter.unusedVariables false
set_option linter.unusedSectionVars false
set_option maxRecDepth 1000000
set_option maxHeartbeats 16000000
namespace Go.Proofs.YtofidnijfnhpaaaGreatDoor
open Go.RowKit
def QcC (p q:Nat) (gs:List Gr) (r:List Vl):List Gr:=
 match gs.getLast? with
 |none=>[(vAt r p,(vAt r q).2.1)]
 |some g=>if g.1=vAt r p then gs.dropLast++[(g.1,max g.2 (vAt r q).2.1)] else gs++[(vAt r p,(vAt r q).2.1)]
def QdO (p q:Nat) (rs:List (List Vl)):List Gr:=rs.foldl (QcC p q) []
theorem QcW {p q:Nat} {gs:List Gr} {r:List Vl} (h:∀g,gs.getLast? =some g->g.1≠vAt r p):QcC p q gs r=gs++[(vAt r p,(vAt r q).2.1)]:=by
 unfold QcC
 cases e:gs.getLast? with
 |none=>rw[List.getLast?_eq_none_iff] at e;subst e;rfl
 |some g=>simp only[];rw[if_neg (h g e)]
theorem QgD {p q:Nat} {gs:List Gr} {g:Gr} {r:List Vl} (h:g.1=vAt r p):QcC p q (gs++[g]) r=gs++[(g.1,max g.2 (vAt r q).2.1)]:=by
 unfold QcC
 simp[h]
theorem Qjt (p q:Nat) (gs:List Gr) (r:List Vl):(QcC p q gs r).length<=gs.length+1:=by
 unfold QcC
 cases e:gs.getLast? with
 |none=>simp
 |some g=>
  simp only[]
  split
  ·simp
  ·simp
theorem Qb9 (p q:Nat) (rs:List (List Vl)) (k:Nat) (h:k<rs.length):QdO p q (rs.take (k+1))=QcC p q (QdO p q (rs.take k)) rs[k]:=by
 unfold QdO
 rw[List.take_succ_eq_append_getElem h,List.foldl_append]
 rfl
theorem QeI (p q:Nat) (rs:List (List Vl)):(QdO p q rs).length<=rs.length:=by
 have o:∀(l:List (List Vl)) (j:List Gr),(l.foldl (QcC p q) j).length<=j.length+l.length:=by
  intro l
  induction l with
  |nil=>intro j;simp
  |cons r l ih=>
   intro j
   have y:=ih (QcC p q j r)
   have z:=Qjt p q j r
   simp only[List.foldl_cons,List.length_cons]
   omega
 have h:=o rs []
 rw[List.length_nil,Nat.zero_add] at h
 exact h
theorem Qdg (p q:Nat) (rs:List (List Vl)) (D:∀r∈rs,Qau (vAt r q).2.1):∀g∈QdO p q rs,-(1000000000*(rs.length:Int))<=g.2/\g.2<=1000000000*(rs.length:Int):=by
 have z:∀(l:List (List Vl)) (o:List Gr) (N:Int),0<=N->(∀r∈l,Qau (vAt r q).2.1)->(∀g∈o,-(1000000000*N)<=g.2/\g.2<=1000000000*N)->∀g∈l.foldl (QcC p q) o,-(1000000000*(N+(l.length:Int)))<=g.2/\g.2<=1000000000*(N+(l.length:Int)):=by
  intro l
  induction l with
  |nil=>intro o N _ _ h g y;simpa using h g y
  |cons r l ih=>
   intro o N F B h g y
   have A:=B r (by simp)
   unfold Qau at A
   have h':=ih (QcC p q o r) (N+1) (by omega) (fun x hx=>B x (by simp[hx])) (fun g' j=>by
    unfold QcC at j
    cases e:o.getLast? with
    |none=>
     rw[e] at j
     simp at j
     rw[j]
     simp only
     omega
    |some g0=>
     rw[e] at j
     simp only[] at j
     have E:=h g0 (List.mem_of_getLast? e)
     split at j
     ·rcases List.mem_append.1 j with j|j
      ·have:=h g' ((List.dropLast_sublist _).subset j)
       omega
      ·simp at j
       rw[j]
       simp only
       omega
     ·rcases List.mem_append.1 j with j|j
      ·have:=h g' j
       omega
      ·simp at j
       rw[j]
       simp only
       omega) g (by simpa using y)
   simp only[List.length_cons]
   push_cast
   omega
 intro g y
 have:=z rs [] 0 (by omega) D (fun g y=>by simp at y) g y
 simpa using this
theorem Qju (p q:Nat) (rs:List (List Vl)) (h:∀r∈rs,(vAt r p).2.2.size<=maxLen):∀g∈QdO p q rs,g.1.2.2.size<=maxLen:=by
 have B:∀(l:List (List Vl)) (o:List Gr),(∀r∈l,(vAt r p).2.2.size<=maxLen)->(∀g∈o,g.1.2.2.size<=maxLen)->∀g∈l.foldl (QcC p q) o,g.1.2.2.size<=maxLen:=by
  intro l
  induction l with
  |nil=>intro o _ h g y;exact h g y
  |cons r l ih=>
   intro o z A g y
   refine ih (QcC p q o r) (fun x hx=>z x (by simp[hx])) (fun g' j=>?_) g y
   unfold QcC at j
   cases e:o.getLast? with
   |none=>
    rw[e] at j
    simp at j
    rw[j]
    exact z r (by simp)
   |some g0=>
    rw[e] at j
    simp only[] at j
    split at j
    ·rcases List.mem_append.1 j with j|j
     ·exact A g' ((List.dropLast_sublist _).subset j)
     ·simp at j
      rw[j]
      exact A g0 (List.mem_of_getLast? e)
    ·rcases List.mem_append.1 j with j|j
     ·exact A g' j
     ·simp at j
      rw[j]
      exact z r (by simp)
 exact B rs [] h (fun g y=>by simp at y)
theorem QeJ (v:Value) (us:List Value) (rs:List (List Vl)) (B m p q:Nat) (w:World) (hv:w.ownsRow B 57 1 v rs.length us) (hH:Qac w B us rs) (hl:∀r∈rs,r.length=m) (h1:1<=m) (h6:m<=100) (bW:rs.length<=100) (hp:p<m) (hq:q<m) (aK:∀r∈rs,Qau (vAt r q).2.1) (hsz:∀r∈rs,∀x∈r,x.2.2.size<=maxLen) (a6:B<=w.heap.size):
 Calls Tryz.prog 74 #[v,.int .i64 p,.int .i64 q,.string ⟨#[109,97,120]⟩] w fun e w'=>Below B w w'/\Qf8 v w w'/\(((∀g∈QdO p q (QaR [p] rs),Qau g.2)/\∃v' us',e=.returned (.tuple #[v',.nilIface])/\w'.ownsRow B 57 1 v' (Qao (QdO p q (QaR [p] rs))).length us'/\Qac w' B us' (Qao (QdO p q (QaR [p] rs))))\/((¬∀g∈QdO p q (QaR [p] rs),Qau g.2)/\e=.returned (.tuple #[.slice none 0 0,Qbp 2]))):=by
 obtain⟨i0,hi,aG,aw,ay⟩:=info_parts Tryz.infoGrp
 obtain⟨i1,bG,bV,bF,b7⟩:=info_parts Tryz.infoRow
 have bb:(w.alloc (.cells #[.int .i64 p] 3)).ownsRow w.heap.size 3 1 (.slice (some ⟨w.heap.size,0,none⟩) 1 1) 1 (Qa5 [p]):=⟨by simp[Qa5],Or.inr ⟨w.heap.size,1,#[.int .i64 p],rfl,Nat.le_refl _,by show(w.heap.push _)[w.heap.size]? =_;simp,by omega,by unfold maxLen;omega,by simp,by simp[Qa5]⟩⟩
 have aX:=Hk (QeG v (.slice (some ⟨w.heap.size,0,none⟩) 1 1) us rs B w.heap.size m [p] (w.alloc (.cells #[.int .i64 p] 3)) (hv.alloc _) (hH.below (Qab _ _)) hl h1 h6 bW bb (by simp) (by simp) (by simpa using hp) (by simp;omega))
 have av:=Hk (Ai hl (Ai aK hsz))
 obtain⟨va,ba,rfl⟩:=Qae hv
 clear bb hv hH hl aK hsz
 go_enter Tryz.func74,Tryz.ntmps74
 go_wp2_with (go_at_call 70;fail)
 refine aX.out.mono ?_
 rintro e F ⟨cr,j,rfl,q1,q2,aV,bd,a4,bk⟩
 have ap:j=QaR [p] rs:=Stb.sortL_is (Qgo [p]) q1 q2
 have aP:j.length=rs.length:=by rw[ap,Qb1]
 have aZ:=Hk ap
 have ax:∀r∈j,r∈rs:=fun r hr=>(q2.mem (Qgo [p])).2 hr
 have O:=Hk (show(∀r∈j,r.length=m)/\(∀r∈j,Qau (vAt r q).2.1)/\(∀r∈j,∀x∈r,x.2.2.size<=maxLen) from⟨fun r hr=>av.out.1 r (ax r hr),fun r hr=>av.out.2.1 r (ax r hr),fun r hr=>av.out.2.2 r (ax r hr)⟩)
 have ak:=Hk (show Below B w F from((Below.refl _ _).alloc a6 _).trans a4)
 have bh:=Hk (show QaC F (.slice va rs.length ba) j from QbA (by rw[aP];exact aV) bd)
 have be:=Hk (show Qf8 (.slice va rs.length ba) w F from fun p hp hne=>(bk p (by simp;omega) hne).trans ((Qab w _).cell hp))
 rw[<-aP] at bh⊢
 have h60':j.length<=100:=by omega
 have aJ:B<=F.heap.size:=Nat.le_trans a6 (by have:=ak.out.size;omega)
 clear ap aP ax q1 q2 aV bd a4 bk aX av
 go_wp2
 go_loopg [10,25] j.length (fun g1 l i wr=>∃(k:Nat) (I:List Gr) (A:Nat),k<=j.length/\i=.int .i64 k/\j.length-k<=g1/\wr.ownsRow F.heap.size 153 4 l A (Qay I)/\Aside (QdO p q (j.take k)=I/\Below F.heap.size F wr/\I.length=A))
 case atStart=>exact⟨0,[],0,Nat.zero_le _,rfl,by omega,World.ownsRow_nil _ _ _ _,rfl,Below.refl _ _,rfl⟩
 case round=>
  obtain⟨k,I,A,hk,rfl,hg,au,T⟩:=hrel
  obtain⟨la,lc,rfl⟩:=Qae au
  have HO:=Hk au
  have Z:=Hk T.out.1
  have M:=Hk T.out.2.2
  have cn:=T.out.2.1.size
  have bT:A<=100:=by have h1:=QeI p q (j.take k);rw[Z.out,List.length_take] at h1;have:=M.out;omega
  clear au
  by_cases hlt:k<j.length
  ·have bp:(k:Int)<(j.length:Int):=by omega
   obtain⟨b1,o1,c1,bg,bs,aL⟩:=Qgv bh.out (by omega)
   simp only[Value.slice.injEq,true_and] at bg
   obtain⟨rfl,rfl⟩:=bg
   obtain⟨xb,xo,xc,a9,aW,aq⟩:=Qjq aL hlt (O.out.1 _ (List.getElem_mem hlt)) h1
   have hxu':=cK T.out.2.1 bs a9
   obtain⟨e0,e1,e2⟩:=(aq.below T.out.2.1 aW) p (by rw[O.out.1 _ (List.getElem_mem hlt)];exact hp)
   obtain⟨-,f1,-⟩:=(aq.below T.out.2.1 aW) q (by rw[O.out.1 _ (List.getElem_mem hlt)];exact hq)
   have HRA':=Hk (QbB (r:=j[k]) (k:=p) (by rw[O.out.1 _ (List.getElem_mem hlt)];exact hp))
   have HRN':=Hk (QbB (r:=j[k]) (k:=q) (by rw[O.out.1 _ (List.getElem_mem hlt)];exact hq))
   have aU:=Hk (O.out.2.1 _ (List.getElem_mem hlt))
   obtain⟨a,ha⟩:∃a,vAt j[k] p=a:=⟨_,rfl⟩
   obtain⟨num,aA⟩:∃n,(vAt j[k] q).2.1=n:=⟨_,rfl⟩
   rw[<-HRA'.out,ha] at e0 e1 e2
   rw[<-HRN'.out,aA] at f1
   have V:=Hk ha
   have al:=Hk aA
   have aY:Qau num:=by have:=aU.out;rw[aA] at this;exact this
   unfold Qau at aY
   obtain⟨cd,cl⟩:=aY
   have cm:(p:Int)<(m:Int):=by omega
   have co:(q:Int)<(m:Int):=by omega
   clear a9 aL aq ha aA HRA' HRN' aU
   rcases List.eq_nil_or_concat I with ag|⟨E,g,ag⟩
   ·have bM:A=0:=by rw[<-M.out,ag];rfl
    subst bM
    have bq:=Hk ag
    clear ag
    have ae:=Hk (show QdO p q (j.take (k+1))=I++[(a,num)] by rw[Qb9 p q j k hlt,Z.out,QcW (fun g' hg'=>by rw[bq.out] at hg';simp at hg'),V.out,al.out])
    have aa:=Hk (show Qay (I++[(a,num)])=Qay I++[.int .i64 a.1,.int .i64 a.2.1,.string a.2.2,.int .i64 num] by rw[QaN];rfl)
    go_wp2
    go_quiet (fail)
    go_wp2_with (at_builtin;refine wpList_append_own _ rfl _ _ 151 rfl F.heap.size 153 i0 (.agg #[.int .i64 0,.int .i64 0,.string ⟨#[]⟩,.int .i64 0]) 4 40 Tryz.underlying151 hi aG aw ay rfl (by decide) _ _ _ rfl ((Qbe HO.out _).alloc _) ⟨wr.heap.size,0,none⟩ 1 1 [.int .i64 a.1,.int .i64 a.2.1,.string a.2.2,.int .i64 num] rfl rfl (Qgs _ _ _ _ _ _) (Qli _ _ _ _) ?c3 ?c4 ?c5 ?_)
    case c3=>unfold maxLen;omega
    case c4=>omega
    case c5=>simp;omega
    intro v' w5 o y _
    have D:Below F.heap.size F w5:=((below_drewN T.out.2.1 _).alloc (by show F.heap.size<=wr.heap.size;omega) _).grown y (by simp;omega) (fun z hz=>(HO.out.lt z hz).1)
    rw[<-aa.out] at o
    have U:=Hk (Ai o D)
    clear o y D
    go_wp2
    go_roundg (j.length-(k+1))
    case measure=>omega
    case rel=>exact⟨k+1,I++[(a,num)],0+1,by omega,by go_num,Nat.le_refl _,U.out.1,ae.out,U.out.2,by rw[List.length_append,M.out];rfl⟩
   ·rw[List.concat_eq_append] at ag
    subst ag
    obtain⟨N,rfl⟩:∃N,A=N+1:=⟨E.length,by have:=M.out;simp at this;omega⟩
    have hGl':E.length=N:=by have:=M.out;simp at this;exact this
    have hO:=HO.out
    rw[<-hGl'] at hO
    obtain⟨gb,rfl,bU,am,g0,g1,g2,g3,gf⟩:=Qlh hO
    rw[hGl'] at g0 g1 g2 g3
    have b8:((N+1:Nat):Int)-1=(N:Int):=by omega
    have bS:¬((N:Int)<0):=by omega
    have cp:decide ((N:Int)<0)=false:=decide_eq_false bS
    have HGL':=Hk hGl'
    have aC:=Hk (Qdg p q (j.take k) (fun r hr=>O.out.2.1 r (List.mem_of_mem_take hr)) g (by rw[Z.out];simp))
    have bI:((j.take k).length:Int)<=100:=by rw[List.length_take];omega
    have bY: -100000000000<=g.2/\g.2<=100000000000:=by
     have h:=aC.out
     omega
    obtain⟨ck,ce⟩:=bY
    have cv:=gf (N*4+3)
    have bJ:=Hk (fun(W:World) (hW:W.ownsRow F.heap.size 153 4 (.slice (some ⟨gb,0,none⟩) (N+1) lc) (N+1) (Qay (E++[g]))) (t:Int)=>show(W.setCell ⟨gb,N*4+3,none⟩ (.int .i64 t)).ownsRow F.heap.size 153 4 (.slice (some ⟨gb,0,none⟩) (N+1) lc) (N+1) (Qay (E++[(g.1,t)])) by rw[<-hGl'] at hW⊢;exact Qjp hW t)
    clear hO hGl' aC bI gf
    by_cases d0:g.1.1=a.1
    ·by_cases d1:g.1.2.1=a.2.1
     ·by_cases d2:g.1.2.2.toList=a.2.2.toList
      ·have aD:g.1=a:=Prod.ext d0 (Prod.ext d1 (QbS d2))
       have b5:=Hk (show QdO p q (j.take (k+1))=E++[(a,max g.2 num)] by rw[Qb9 p q j k hlt,Z.out,QgD (by rw[V.out];exact aD),al.out,aD])
       have bN:=Hk aD
       have d0':(g.1.1==a.1)=true:=by simp[d0]
       have d1':(g.1.2.1==a.2.1)=true:=by simp[d1]
       have d2':(g.1.2.2.toList==a.2.2.toList)=true:=by simp[d2]
       clear aD
       go_wp2
       go_quiet (fail)
       go_wp2
       go_roundg (j.length-(k+1))
       case measure=>omega
       case rel=>exact⟨k+1,E++[(a,max g.2 num)],N+1,by omega,by go_num,Nat.le_refl _,by rw[<-bN.out];exact bJ.out _ (Qbe HO.out _) _,b5.out,(below_drewN T.out.2.1 _).setCell (by show F.heap.size<=gb;exact bU) _,by simp[HGL'.out]⟩
      ·have d0':(g.1.1==a.1)=true:=by simp[d0]
       have d1':(g.1.2.1==a.2.1)=true:=by simp[d1]
       have d2':(g.1.2.2.toList==a.2.2.toList)=false:=by simp[d2]
       have ao:=Hk (show g.1≠a from fun e=>d2 (by rw[e]))
       have ae:=Hk (show QdO p q (j.take (k+1))=(E++[g])++[(a,num)] by rw[Qb9 p q j k hlt,Z.out,QcW (fun g' hg'=>by rw[V.out];simp at hg';rw[<-hg'];exact ao.out),V.out,al.out])
       have aa:=Hk (show Qay ((E++[g])++[(a,num)])=Qay (E++[g])++[.int .i64 a.1,.int .i64 a.2.1,.string a.2.2,.int .i64 num] by rw[QaN];rfl)
       go_wp2
       go_quiet (fail)
       go_wp2_with (at_builtin;refine wpList_append_own _ rfl _ _ 151 rfl F.heap.size 153 i0 (.agg #[.int .i64 0,.int .i64 0,.string ⟨#[]⟩,.int .i64 0]) 4 40 Tryz.underlying151 hi aG aw ay rfl (by decide) _ _ _ rfl ((Qbe HO.out _).alloc _) ⟨wr.heap.size,0,none⟩ 1 1 [.int .i64 a.1,.int .i64 a.2.1,.string a.2.2,.int .i64 num] rfl rfl (Qgs _ _ _ _ _ _) (Qli _ _ _ _) ?c3 ?c4 ?c5 ?_)
       case c3=>unfold maxLen;omega
       case c4=>omega
       case c5=>simp;omega
       intro v' w5 o y _
       have D:Below F.heap.size F w5:=((below_drewN T.out.2.1 _).alloc (by show F.heap.size<=wr.heap.size;omega) _).grown y (by simp;omega) (fun z hz=>(HO.out.lt z hz).1)
       rw[<-aa.out] at o
       have U:=Hk (Ai o D)
       clear o y D
       go_wp2
       go_roundg (j.length-(k+1))
       case measure=>omega
       case rel=>exact⟨k+1,(E++[g])++[(a,num)],(N+1)+1,by omega,by go_num,Nat.le_refl _,U.out.1,ae.out,U.out.2,by rw[List.length_append,M.out];rfl⟩
     ·have d0':(g.1.1==a.1)=true:=by simp[d0]
      have d1':(g.1.2.1==a.2.1)=false:=by simp[d1]
      have ao:=Hk (show g.1≠a from fun e=>d1 (by rw[e]))
      have ae:=Hk (show QdO p q (j.take (k+1))=(E++[g])++[(a,num)] by rw[Qb9 p q j k hlt,Z.out,QcW (fun g' hg'=>by rw[V.out];simp at hg';rw[<-hg'];exact ao.out),V.out,al.out])
      have aa:=Hk (show Qay ((E++[g])++[(a,num)])=Qay (E++[g])++[.int .i64 a.1,.int .i64 a.2.1,.string a.2.2,.int .i64 num] by rw[QaN];rfl)
      go_wp2
      go_quiet (fail)
      go_wp2_with (at_builtin;refine wpList_append_own _ rfl _ _ 151 rfl F.heap.size 153 i0 (.agg #[.int .i64 0,.int .i64 0,.string ⟨#[]⟩,.int .i64 0]) 4 40 Tryz.underlying151 hi aG aw ay rfl (by decide) _ _ _ rfl ((Qbe HO.out _).alloc _) ⟨wr.heap.size,0,none⟩ 1 1 [.int .i64 a.1,.int .i64 a.2.1,.string a.2.2,.int .i64 num] rfl rfl (Qgs _ _ _ _ _ _) (Qli _ _ _ _) ?c3 ?c4 ?c5 ?_)
      case c3=>unfold maxLen;omega
      case c4=>omega
      case c5=>simp;omega
      intro v' w5 o y _
      have D:Below F.heap.size F w5:=((below_drewN T.out.2.1 _).alloc (by show F.heap.size<=wr.heap.size;omega) _).grown y (by simp;omega) (fun z hz=>(HO.out.lt z hz).1)
      rw[<-aa.out] at o
      have U:=Hk (Ai o D)
      clear o y D
      go_wp2
      go_roundg (j.length-(k+1))
      case measure=>omega
      case rel=>exact⟨k+1,(E++[g])++[(a,num)],(N+1)+1,by omega,by go_num,Nat.le_refl _,U.out.1,ae.out,U.out.2,by rw[List.length_append,M.out];rfl⟩
    ·have d0':(g.1.1==a.1)=false:=by simp[d0]
     have ao:=Hk (show g.1≠a from fun e=>d0 (by rw[e]))
     have ae:=Hk (show QdO p q (j.take (k+1))=(E++[g])++[(a,num)] by rw[Qb9 p q j k hlt,Z.out,QcW (fun g' hg'=>by rw[V.out];simp at hg';rw[<-hg'];exact ao.out),V.out,al.out])
     have aa:=Hk (show Qay ((E++[g])++[(a,num)])=Qay (E++[g])++[.int .i64 a.1,.int .i64 a.2.1,.string a.2.2,.int .i64 num] by rw[QaN];rfl)
     go_wp2
     go_quiet (fail)
     go_wp2_with (at_builtin;refine wpList_append_own _ rfl _ _ 151 rfl F.heap.size 153 i0 (.agg #[.int .i64 0,.int .i64 0,.string ⟨#[]⟩,.int .i64 0]) 4 40 Tryz.underlying151 hi aG aw ay rfl (by decide) _ _ _ rfl ((Qbe HO.out _).alloc _) ⟨wr.heap.size,0,none⟩ 1 1 [.int .i64 a.1,.int .i64 a.2.1,.string a.2.2,.int .i64 num] rfl rfl (Qgs _ _ _ _ _ _) (Qli _ _ _ _) ?c3 ?c4 ?c5 ?_)
     case c3=>unfold maxLen;omega
     case c4=>omega
     case c5=>simp;omega
     intro v' w5 o y _
     have D:Below F.heap.size F w5:=((below_drewN T.out.2.1 _).alloc (by show F.heap.size<=wr.heap.size;omega) _).grown y (by simp;omega) (fun z hz=>(HO.out.lt z hz).1)
     rw[<-aa.out] at o
     have U:=Hk (Ai o D)
     clear o y D
     go_wp2
     go_roundg (j.length-(k+1))
     case measure=>omega
     case rel=>exact⟨k+1,(E++[g])++[(a,num)],(N+1)+1,by omega,by go_num,Nat.le_refl _,U.out.1,ae.out,U.out.2,by rw[List.length_append,M.out];rfl⟩
  ·have bp:¬((k:Int)<(j.length:Int)):=by omega
   have az:=Hk (show QdO p q j=I by rw[<-Z.out,List.take_of_length_le (by omega)])
   have aC:=Hk (Qdg p q j (fun r hr=>O.out.2.1 r hr))
   have bK:=Hk (show∀g∈I,g.1.2.2.size<=maxLen from by rw[<-az.out];exact Qju p q j (fun r hr=>Qh2 hp (O.out.1 r hr) (O.out.2.2 r hr)))
   rw[az.out] at aC
   have cw:A<=100:=bT
   obtain⟨wa,bE⟩:∃wa,wa=wr:=⟨_,rfl⟩
   subst bE
   have bX:=Hk (fun k (hk:k<I.length)=>Qgt HO.out M.out k hk)
   go_wp2
   go_loopg [15,87] A (fun g2 l2 i wr2=>∃(t:Nat) (aB:List Value),t<=A/\i=.int .i64 t/\A-t<=g2/\wr2.ownsRow wa.heap.size 57 1 l2 t aB/\Aside (Qac wr2 wa.heap.size aB (Qao (I.take t))/\Below wa.heap.size wa wr2/\∀g∈I.take t,Qau g.2))
   case atStart=>exact⟨0,[],Nat.zero_le _,rfl,by omega,World.ownsRow_nil _ _ _ _,by simpa [Qao] using Qac.nil _ _,Below.refl _ _,by simp⟩
   case round=>
    obtain⟨t,aB,ht,rfl,cu,ah,K⟩:=hrel
    obtain⟨cq,ct,rfl⟩:=Qae ah
    have aE:=Hk ah
    clear ah
    have b9:=K.out.2.1.size
    by_cases htl:t<A
    ·have br:(t:Int)<(A:Int):=by omega
     have aO:t<I.length:=by have:=M.out;omega
     obtain⟨gb,bB,am,z0,z1,z2,z3⟩:=bX.out t aO
     subst bB
     have y0:=cK K.out.2.1 am z0
     have y1:=cK K.out.2.1 am z1
     have y2:=cK K.out.2.1 am z2
     have y3:=cK K.out.2.1 am z3
     have bi:=Hk (List.getElem_mem aO)
     have a8:=Hk (show I.take (t+1)=I.take t++[I[t]] from List.take_succ_eq_append_getElem aO)
     generalize I[t]=g at*
     clear z0 z1 z2 z3
     by_cases hin:Qau g.2
     ·have af:=Hk (fun W=>Qeu g.2 W hin)
      unfold aggV at af
      have aM:=Hk hin
      clear hin
      go_wp2_with (first|(go_at_call 93;refine(af.out _).mono ?_;rintro e w6 ⟨rfl,J⟩;have k0:=(J.cell (p:=⟨wr.heap.size,0,none⟩) (by simp)).trans (World.cell?_alloc_at _ _ _ _ rfl);have k1:=(J.cell (p:=⟨wr.heap.size,1,none⟩) (by simp)).trans (World.cell?_alloc_at _ _ _ _ rfl);have k2:=(J.cell (p:=⟨wr.heap.size,2,none⟩) (by simp)).trans (World.cell?_alloc_at _ _ _ _ rfl);have hs6':=J.size;simp at hs6' k0 k1 k2;have bL:wr.heap.size<w6.heap.size:=by omega)|(at_builtin;refine wpList_append_own _ rfl _ _ 34 rfl wa.heap.size 57 i1 (.slice none 0 0) 1 24 Tryz.underlying34 bG bV bF b7 rfl (by decide) _ _ _ rfl ((((Qaf (aE.out.alloc _) J).alloc _).alloc _).alloc _) ⟨w6.heap.size+1+1,0,none⟩ 1 1 [.slice (some ⟨w6.heap.size+1,0,none⟩) 2 2] rfl rfl (QbG _ _ _ _ (by simp)) (QbZ _ _ _) ?c3 ?c4 ?c5 ?_))
      case c3=>unfold maxLen;omega
      case c4=>omega
      case c5=>simp;omega
      intro v' w5 o y _
      have aN:=((((Qaf (aE.out.alloc (.cells #[.int .i64 g.1.1,.int .i64 g.1.2.1,.string g.1.2.2,.int .i64 g.2] 153)) J).alloc (.cells #[.int .i64 1,.int .i64 g.2,.string ⟨#[]⟩] 24)).alloc (.cells #[.int .i64 g.1.1,.int .i64 g.1.2.1,.string g.1.2.2,.int .i64 1,.int .i64 g.2,.string ⟨#[]⟩] 24)).alloc (.cells #[.slice (some ⟨w6.heap.size+1,0,none⟩) 2 2] 57))
      have D:Below wa.heap.size wa w5:=((Qaa (Qaa (Qaa (Qaa K.out.2.1 (Qab _ (.cells #[.int .i64 g.1.1,.int .i64 g.1.2.1,.string g.1.2.2,.int .i64 g.2] 153))) J) (Qab _ (.cells #[.int .i64 1,.int .i64 g.2,.string ⟨#[]⟩] 24))) (Qab _ (.cells #[.int .i64 g.1.1,.int .i64 g.1.2.1,.string g.1.2.2,.int .i64 1,.int .i64 g.2,.string ⟨#[]⟩] 24))).alloc (by simp;omega) (.cells #[.slice (some ⟨w6.heap.size+1,0,none⟩) 2 2] 57)).grown y (by simp;omega) (fun z hz=>(aE.out.lt z hz).1)
      have a7:=(((((K.out.1.below (Qab _ (.cells #[.int .i64 g.1.1,.int .i64 g.1.2.1,.string g.1.2.2,.int .i64 g.2] 153))).below J).below (Qab _ (.cells #[.int .i64 1,.int .i64 g.2,.string ⟨#[]⟩] 24))).below (Qab _ (.cells #[.int .i64 g.1.1,.int .i64 g.1.2.1,.string g.1.2.2,.int .i64 1,.int .i64 g.2,.string ⟨#[]⟩] 24))).below (Qab _ (.cells #[.slice (some ⟨w6.heap.size+1,0,none⟩) 2 2] 57))).grow aN y
      have aQ:=(Qgu (w6.alloc (.cells #[.int .i64 1,.int .i64 g.2,.string ⟨#[]⟩] 24)) wa.heap.size (w6.heap.size+1) g.1 (1,g.2,⟨#[]⟩) (by simp;omega) (by simp)).alloc (.cells #[.slice (some ⟨w6.heap.size+1,0,none⟩) 2 2] 57)
      have bf:=aQ.kept y (Qch (by decide) aQ aN)
      have aI:=a7.snoc (r:=[g.1,(1,g.2,⟨#[]⟩)]) bf (fun x hx=>by
       simp at hx
       rcases hx with rfl|rfl
       ·exact bK.out g bi.out
       ·exact Nat.zero_le _)
      have bc:Qao (I.take t)++[[g.1,(1,g.2,⟨#[]⟩)]]=Qao (I.take (t+1)):=by rw[a8.out];simp[Qao]
      rw[bc] at aI
      have U:=Hk (Ai o (Ai aI D))
      have b4:=Hk (show∀g'∈I.take (t+1),Qau g'.2 from fun g' hg'=>by
       rw[a8.out] at hg'
       rcases List.mem_append.1 hg' with h|h
       ·exact K.out.2.2 g' h
       ·simp at h
        rw[h]
        exact aM.out)
      clear o y aI D a7 bf aN aQ bc
      go_wp2
      go_roundg (A-(t+1))
      case measure=>omega
      case rel=>exact⟨t+1,_,by omega,by go_num,Nat.le_refl _,U.out.1,U.out.2.1,U.out.2.2,b4.out⟩
     ·have af:=Hk (fun W=>QdK g.2 W hin)
      unfold aggV at af
      simp only[Qh3] at af
      have aM:=Hk hin
      clear hin
      go_wp2_with (go_at_call 93;refine(af.out _).mono ?_;rintro e w6 ⟨rfl,J⟩;have k0:=(J.cell (p:=⟨wr.heap.size,0,none⟩) (by simp)).trans (World.cell?_alloc_at _ _ _ _ rfl);have k1:=(J.cell (p:=⟨wr.heap.size,1,none⟩) (by simp)).trans (World.cell?_alloc_at _ _ _ _ rfl);have k2:=(J.cell (p:=⟨wr.heap.size,2,none⟩) (by simp)).trans (World.cell?_alloc_at _ _ _ _ rfl);have hs6':=J.size;simp at hs6' k0 k1 k2;have bL:wr.heap.size<w6.heap.size:=by omega)
      refine bodyPost_ret (by simp[results,Tryz.results74,go_sem];rfl) rfl ?_
      rw[<-aZ.out,az.out]
      refine⟨ak.out.trans ((Qaa (Qaa (Qaa (Qaa T.out.2.1 K.out.2.1) (Qab _ _)) J) (Qab _ _)).mono aJ),be.out.below (Qaa (Qaa (Qaa (Qaa T.out.2.1 K.out.2.1) (Qab _ _)) J) (Qab _ _)) ak.out.size,Or.inr ⟨fun h=>aM.out (h g bi.out),rfl⟩⟩
    ·have br:¬((t:Int)<(A:Int)):=by omega
     have bj:=Hk (show I.take t=I from List.take_of_length_le (by have:=M.out;omega))
     have a5:t=A:=by omega
     have bC:=Hk (show(Qao I).length=t by unfold Qao;rw[List.length_map,M.out,a5])
     go_wp2
     refine bodyPost_ret (by simp[results,Tryz.results74,go_sem];rfl) rfl ?_
     rw[<-aZ.out,az.out,bC.out]
     refine⟨ak.out.trans ((Qaa T.out.2.1 K.out.2.1).mono aJ),be.out.below (Qaa T.out.2.1 K.out.2.1) ak.out.size,Or.inl ⟨fun a b c n hg=>K.out.2.2 ((a,b,c),n) (by rw[bj.out];exact hg),_,rfl,aB,(by have h:=aE.out;rw[a5] at h⊢;exact Qam (show B<=wa.heap.size by omega) h),?_⟩⟩
     have h:=K.out.1
     rw[bj.out] at h
     exact h.mono (by omega)
theorem Qho {cs:List Cl} {rs:List (List Vl)} (h:Qan cs rs=true):∀r∈rs,∀x∈r,rvB x=true:=by
 intro r o x q
 obtain⟨B,E,y⟩:=Qbh h
 obtain⟨D,F,A,z⟩:=Qar h
 obtain⟨i,j,rfl⟩:=List.mem_iff_getElem.1 q
 exact(Qjj (y r o) i j (by rw[<-z r o];exact j)).2
theorem Qlx {x:Vl} (h:rvB x=true):Qau x.2.1:=by
 have:=QbQ h
 exact⟨this.2.1,this.2.2⟩
theorem Qc7 {w:World} {v:Value} {rs:List (List Vl)} (h:QaC w v rs):∀r∈rs,∀x∈r,x.2.2.size<=maxLen:=by
 obtain⟨a,c,-,h|⟨b,o,-,-,q⟩⟩:=h
 ·rw[h];intro r j;simp at j
 ·intro r j x y
  obtain⟨i,z,rfl⟩:=List.getElem_of_mem j
  obtain⟨u,-,-,-,-,A,-⟩:=q i z
  exact A x y
theorem QcD {cs:List Cl} {x y:ByteArray} (h:QaG cs x y=0):Qak cs x.data.toList=some (pOf cs x)/\Qak cs y.data.toList=some (pOf cs y)/\QbC cs (pOf cs y)=1/\pOf cs x≠pOf cs y:=by
 unfold QaG at h
 unfold pOf
 split at h
 ·rename_i p q o A
  rw[o,A]
  split at h
  ·cases h
  ·rename_i j
   split at h
   ·cases h
   ·rename_i z
    exact⟨rfl,rfl,by simpa using j,z⟩
 ·cases h
theorem Qee {cs:List Cl} {x y:ByteArray} (h:QaG cs x y=0):QaB cs [x,y]=0:=by
 obtain⟨j,z,-,q⟩:=QcD h
 have o:x.data.toList≠y.data.toList:=fun e=>q (by unfold pOf;rw[e])
 unfold QaB
 rw[if_neg (by simp)]
 simp[Qf7,j,z,inS]
 exact fun e=>o (by rw[e])
theorem QbW {w:World} {v:Value} {x y:ByteArray} (h:QaX w v [x,y]):Qc5 w v x y:=by
 obtain⟨a,c,e,-,-,h|⟨b,o,rfl,q,j⟩⟩:=h
 ·simp at h
 ·exact⟨b,o,c,e,q,by simpa using j 0 (by simp),by simpa using j 1 (by simp)⟩
def grpOf (t:Tb) (x y:ByteArray):List Gr:=QdN (pOf t.1 x) (pOf t.1 y) (QaR [pOf t.1 x] t.2)
def grpT (t:Tb) (x y:ByteArray):Tb:=(QaT [pOf t.1 x,pOf t.1 y] t.1,Qao (grpOf t x y))
open Classical in
noncomputable def grpNo (t:Tb) (x y:ByteArray):Int:=if Qan t.1 t.2=false then 1 else if QaG t.1 x y≠0 then QaG t.1 x y else if∀g∈grpOf t x y,Qau g.2 then 0 else 2
theorem grpNo_0 {t:Tb} {x y:ByteArray} (h:grpNo t x y=0):Qan t.1 t.2=true/\QaG t.1 x y=0/\∀g∈grpOf t x y,Qau g.2:=by
 unfold grpNo at h
 split at h
 ·cases h
 ·rename_i o
  split at h
  ·rename_i j;exact absurd h j
  ·rename_i j
   split at h
   ·rename_i q
    exact⟨by simpa using o,by simpa using j,q⟩
   ·cases h
theorem grp_wrong {t:Tb} {x y:ByteArray} {j:Jb} {W:World} {B g A:Nat} {us:List Value} (D:j.code=8) (K:j.op=⟨#[115,117,109]⟩) (hr:Qan t.1 t.2=true) (T:QaX W j.cols [x,y]) (Z:W.ownsRow B 33 1 (.slice (some ⟨g,0,none⟩) 1 A) 1 us) (O:QaA W us [t.1]):∀h,Below W.heap.size W h->Calls Tryz.prog 26 #[.agg j.cells,.slice (some ⟨g,0,none⟩) 1 A] h fun e w'=>e=.returned (Qbp (QaG t.1 x y))/\Below h.heap.size h w':=by
 intro h q
 obtain⟨N,ac,ad,ae⟩:=Qar hr
 obtain⟨b,o,c,M,E,F,J⟩:=Qcy Z O N
 refine QcU g 0 1 A b o t.1.length c j _ h D (by decide) (Nat.lt_of_lt_of_le E q.size) (cK q E M) (fun W2 hW2=>?_)
 have z:=Qaa q hW2
 obtain⟨V,no,cc,e,I,U,s1⟩:=(QbW T).below z
 exact group_any b o t.1.length c V no cc t.1 x y j W2 e K I U s1 rfl (by omega) (Nat.lt_of_lt_of_le F z.size) (J.below z F)
theorem grp_cols {t:Tb} {x y:ByteArray} {j:Jb} {K:Option Addr} {N:Nat} {w:World} (h:j.code=8) (J:j.op=⟨#[115,117,109]⟩) (D:j.outs=.slice K 1 N) (O:QaX w j.cols [x,y]) (Z:Qan t.1 t.2=true) (he:QaG t.1 x y=0):∀W B g q us,Below w.heap.size w W->W.ownsRow B 33 1 (.slice (some ⟨g,0,none⟩) [t].length q) [t].length us->QaA W us ([t].map (·.1))->Calls Tryz.prog 10 #[.agg j.cells,.slice (some ⟨g,0,none⟩) [t].length q] W fun e w'=>∃v us,e=.returned (.tuple #[v,.nilIface])/\w'.ownsRow W.heap.size 33 1 v 1 us/\Qbi w' W.heap.size us (grpT t x y).1/\Below W.heap.size W w':=by
 intro W B g q us E T F
 have U:QaP j.code=(((1:Nat):Int),((1:Nat):Int)):=by rw[h];rfl
 obtain⟨V,aa,ac,ab⟩:=Qar Z
 obtain⟨b,o,c,M,z,A,I⟩:=Qcy T F V
 refine Qde _ K q N j 1 1 (grpT t x y).1 W D U (by decide) (by decide) (fun W' hW'=>?_) (fun W' hW'=>QcB g 0 1 q b o t.1.length c t.1 [x,y] j W' h (by decide) (Nat.lt_of_lt_of_le z hW'.size) (cK hW' z M) ((O.below E).below hW') (Qee he) rfl (by omega) (Nat.lt_of_lt_of_le A hW'.size) (I.below hW' A))
 have:=grp_wrong h J Z (O.below E) T F W' hW'
 rw[he] at this
 exact this
theorem Qef {t:Tb} {x y:ByteArray} (j:Qan t.1 t.2=true) (he:QaG t.1 x y=0):∀r∈t.2,Qau (vAt r (pOf t.1 y)).2.1:=by
 intro r h
 obtain⟨A,z,B,o⟩:=Qar j
 have q:=Qaj (QcD he).2.1
 rw[QbB (by rw[o r h];exact q)]
 exact Qlx (Qho j r h _ (List.getElem_mem _))
theorem do_grp_bad (z h tcap:Nat) (t:Tb) (x y:ByteArray) (j:Jb) (O:Option Addr) (T:Nat) (w:World) (o:j.code=8) (E:j.op=⟨#[115,117,109]⟩) (F:j.outs=.slice O 1 T) (K:QaX w j.cols [x,y]) (I:Qa0 w z h [t]) (q:z<w.heap.size) (ab:grpNo t x y≠0):
 Calls Tryz.prog 14 #[.agg j.cells,.slice (some ⟨z,h,none⟩) 1 tcap] w fun e w'=>e=.returned (.tuple #[.slice none 0 0,Qbp (grpNo t x y)])/\Below w.heap.size w w':=by
 have V:QaP j.code=(((1:Nat):Int),((1:Nat):Int)):=by rw[o];rfl
 cases hr:Qan t.1 t.2
 ·have:grpNo t x y=1:=by unfold grpNo;rw[if_pos hr]
  rw[this]
  exact QhT z h tcap [t] j w I q (by simp) ⟨t,by simp,hr⟩
 ·have D:∀u∈[t],Qan u.1 u.2=true:=by intro u N;simp at N;rw[N];exact hr
  by_cases he:QaG t.1 x y=0
  ·by_cases hS:∀g∈grpOf t x y,Qau g.2
   ·exfalso
    apply ab
    unfold grpNo
    rw[if_neg (by simp[hr]),if_neg (by simpa using he),if_pos hS]
   ·have:grpNo t x y=2:=by unfold grpNo;rw[if_neg (by simp[hr]),if_neg (by simpa using he),if_neg hS]
    rw[this]
    obtain⟨Z,ao,ap,aa⟩:=Qar hr
    obtain⟨vc,vr,c0,c1,hc,J⟩:=I 0 (by simp)
    obtain⟨hp,hq,-,-⟩:=QcD he
    refine Qhk z h tcap [t] j w I q (by simp) (by simp) D (grpT t x y).1 1 2 (by decide) (grp_cols o E F K hr he) (fun W A=>?_)
    obtain⟨nb,no,cc,e,M,s0,s1⟩:=(QbW K).below A
    exact rowsOf_group_bad z h 1 tcap nb no cc _ _ vc vr t.1 t.2 x y j W o E e M s0 s1 hp hq (by decide) (Nat.lt_of_lt_of_le q A.size) ((A.cell (p:=⟨z,h,none⟩) q).trans (by simpa using c0)) ((A.cell (p:=⟨z,h+1,none⟩) q).trans (by simpa using c1)) (hc.below A) (J.below A) Z (by omega) aa (by omega) (Qef hr he) (Qc7 J) hS
  ·have hn:grpNo t x y=QaG t.1 x y:=by unfold grpNo;rw[if_neg (by simp[hr]),if_pos he]
   rw[hn]
   refine QhU z h tcap [t] j w I q (by simp) (by simp) D _ he ?_
   intro W B g U us A ho hh
   exact Qeb _ O U T j 1 1 _ W F V (by decide) he (grp_wrong o E hr (K.below A) ho hh)
theorem grp_len (t:Tb) (x y:ByteArray):(Qao (grpOf t x y)).length<=t.2.length:=by
 have h:=QeF (pOf t.1 x) (pOf t.1 y) (QaR [pOf t.1 x] t.2)
 rw[Qb1] at h
 unfold Qao
 rw[List.length_map]
 exact h
theorem Qfi {cs:List Cl} {o:List Nat} (h:∀z∈cs,z.1.size<=maxLen):∀z∈QaT o cs,z.1.size<=maxLen:=by
 intro z j
 unfold QaT at j
 obtain⟨k,-,rfl⟩:=List.mem_map.1 j
 by_cases hk:k<cs.length
 ·rw[List.getElem?_eq_getElem hk]
  exact h _ (List.getElem_mem hk)
 ·rw[List.getElem?_eq_none (by omega)]
  exact Nat.zero_le _
theorem do_grp_ok (o h tcap:Nat) (t:Tb) (x y:ByteArray) (j:Jb) (oa:Option Addr) (oc:Nat) (w:World) (q:j.code=8) (D:j.op=⟨#[115,117,109]⟩) (F:j.outs=.slice oa 1 oc) (M:QaX w j.cols [x,y]) (V:Qa0 w o h [t]) (z:o<w.heap.size) (U:grpNo t x y=0):
 Calls Tryz.prog 14 #[.agg j.cells,.slice (some ⟨o,h,none⟩) 1 tcap] w fun e A=>∃g c,e=.returned (.tuple #[.slice (some ⟨g,0,none⟩) 1 c,.nilIface])/\w.heap.size<=g/\g<A.heap.size/\QbR A w.heap.size g [grpT t x y]/\Below w.heap.size w A:=by
 obtain⟨B,he,hS⟩:=grpNo_0 U
 obtain⟨T,ap,aq,O⟩:=Qar B
 obtain⟨vc,vr,c0,c1,N,E⟩:=V 0 (by simp)
 obtain⟨hp,hq,-,-⟩:=QcD he
 refine Qex o h tcap [t] j w V z (by simp) (by simp) (by intro u J;simp at J;rw[J];exact B) (grpT t x y).1 (grpT t x y).2 [] (by have:=grp_len t x y;show(Qao (grpOf t x y)).length<=60;omega) (Qfi (QbI N)) (grp_cols q D F M B he) (fun W hW=>?_)
 obtain⟨nb,no,cc,e,I,s0,s1⟩:=(QbW M).below hW
 refine(rowsOf_group_ok o h 1 tcap nb no cc _ _ vc vr t.1 t.2 x y j W q D e I s0 s1 hp hq (by decide) (Nat.lt_of_lt_of_le z hW.size) ((hW.cell (p:=⟨o,h,none⟩) z).trans (by simpa using c0)) ((hW.cell (p:=⟨o,h+1,none⟩) z).trans (by simpa using c1)) (N.below hW) (E.below hW) T (by omega) O (by omega) (Qef B he) (Qc7 E) hS).mono ?_
 rintro e A ⟨Z,K,h1,h2,h3,hb⟩
 exact⟨Z,.slice none 0 0,K,[],h1,h2,h3,World.ownsRow_nil _ _ _ _,Qac.nil _ _,hb⟩
end Go.Proofs.YtofidnijfnhpaaaGreatDoor
