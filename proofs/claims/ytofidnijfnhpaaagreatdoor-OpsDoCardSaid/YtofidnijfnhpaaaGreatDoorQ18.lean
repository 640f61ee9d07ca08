import Derived.Test.YtofidnijfnhpaaaGreatDoorQ01
import Derived.Test.YtofidnijfnhpaaaGreatDoorQ17
set_option linter.unusedSimpArgs false
set_option linter.unusedVariables false
set_option linter.unusedSectionVars false
set_option maxRecDepth 1000000
set_option maxHeartbeats 16000000
namespace Go.Proofs.YtofidnijfnhpaaaGreatDoor
open Go.RowKit
theorem Qgs (w:World) (a b c d:Value) (t:TypeId):∀(j:Nat) (u:Value),[a,b,c,d][j]? =some u->(w.alloc (.cells #[a,b,c,d] t)).cell? ((⟨w.heap.size,0,none⟩:Addr).add j)=some u:=by
 intro j u h
 rw[Addr.add_mid,Nat.zero_add,World.cell?_alloc_at _ _ _ _ rfl]
 have q:j<4:=by have:=(List.getElem?_eq_some_iff.1 h).1;simpa using this
 have o:j=0\/j=1\/j=2\/j=3:=by omega
 rcases o with rfl|rfl|rfl|rfl<;>simpa using h
theorem Qli (a b n:Int) (s:ByteArray):∀u∈[Value.int .i64 a,.int .i64 b,.string s,.int .i64 n],u.oneCell'=true:=by
 intro u h
 simp at h
 rcases h with rfl|rfl|rfl|rfl<;>rfl
theorem Qgt {w:World} {B G c:Nat} {a:Option Addr} {gs:List Gr} (h:w.ownsRow B 153 4 (.slice a G c) G (Qay gs)) (K:gs.length=G) (k:Nat) (D:k<gs.length):∃b,a=some ⟨b,0,none⟩/\b<w.heap.size/\w.cell? ⟨b,k*4,none⟩=some (.int .i64 gs[k].1.1)/\w.cell? ⟨b,k*4+1,none⟩=some (.int .i64 gs[k].1.2.1)/\w.cell? ⟨b,k*4+2,none⟩=some (.string gs[k].1.2.2)/\w.cell? ⟨b,k*4+3,none⟩=some (.int .i64 gs[k].2):=by
 obtain⟨b,I,e,J,z,F⟩:=QaY h (by omega)
 simp only[Value.slice.injEq] at e
 have q:gs=gs.take k++gs[k]::gs.drop (k+1):=by rw[<-List.drop_eq_getElem_cons D,List.take_append_drop]
 have j:∀i (o:i<4) y,([Value.int .i64 gs[k].1.1,.int .i64 gs[k].1.2.1,.string gs[k].1.2.2,.int .i64 gs[k].2])[i]? =some y->w.cell? ⟨b,k*4+i,none⟩=some y:=by
  intro i o y A
  have:=F (k*4+i) y (by
   have E:Qay gs=Qay (gs.take k)++([Value.int .i64 gs[k].1.1,.int .i64 gs[k].1.2.1,.string gs[k].1.2.2,.int .i64 gs[k].2]++Qay (gs.drop (k+1))):=by
    conv=>lhs;rw[q]
    rw[QaN];rfl
   rw[E,List.getElem?_append_right (by rw[QbD,List.length_take];omega),QbD,List.length_take,List.getElem?_append_left (by simp;omega),<-A]
   congr 1
   omega)
  simpa using this
 exact⟨b,e.1,z,j 0 (by omega) _ rfl,j 1 (by omega) _ rfl,j 2 (by omega) _ rfl,j 3 (by omega) _ rfl⟩
theorem Qh2 {r:List Vl} {p m:Nat} (o:p<m) (j:r.length=m) (h:∀x∈r,x.2.2.size<=maxLen):(vAt r p).2.2.size<=maxLen:=by
 rw[QbB (by omega)]
 exact h _ (List.getElem_mem (by omega))
theorem QkB (p q:Nat) (rs:List (List Vl)) (h:∀r∈rs,(vAt r p).2.2.size<=maxLen):∀g∈QdN p q rs,g.1.2.2.size<=maxLen:=by
 have B:∀(l:List (List Vl)) (o:List Gr),(∀r∈l,(vAt r p).2.2.size<=maxLen)->(∀g∈o,g.1.2.2.size<=maxLen)->∀g∈l.foldl (Qcz p q) o,g.1.2.2.size<=maxLen:=by
  intro l
  induction l with
  |nil=>intro o _ h g y;exact h g y
  |cons r l ih=>
   intro o z A g y
   refine ih (Qcz p q o r) (fun x hx=>z x (by simp[hx])) (fun g' j=>?_) g y
   unfold Qcz at j
   cases e:o.getLast? with
   |none=>
    rw[e] at j
    simp at j
    rw[j]
    exact z r (by simp)
   |some g0=>
    rw[e] at j
    simp only[] at j
    split at j
    ·rcases List.mem_append.1 j with j|j
     ·exact A g' ((List.dropLast_sublist _).subset j)
     ·simp at j
      rw[j]
      exact A g0 (List.mem_of_getLast? e)
    ·rcases List.mem_append.1 j with j|j
     ·exact A g' j
     ·simp at j
      rw[j]
      exact z r (by simp)
 exact B rs [] h (fun g y=>by simp at y)
theorem Qh3:Qbp 2=.iface 40 (.int .i64 2):=rfl
theorem QkC (W:World) (B:Nat) (a b:Vl) (h:B<=W.heap.size):(W.alloc (.cells #[.int .i64 a.1,.int .i64 a.2.1,.string a.2.2,.int .i64 b.1,.int .i64 b.2.1,.string b.2.2] 24)).ownsRow B 24 3 (.slice (some ⟨W.heap.size,0,none⟩) 2 2) 2 (Qai [a,b]):=
 ⟨by simp[Qai],Or.inr ⟨W.heap.size,2,_,rfl,h,by show(W.heap.push _)[W.heap.size]? =_;simp;rfl,by omega,by unfold maxLen;omega,by simp,by simp[Qai]⟩⟩
theorem Qgu (W:World) (B H:Nat) (a b:Vl) (j:B<=W.heap.size) (h:W.heap.size=H):(W.alloc (.cells #[.int .i64 a.1,.int .i64 a.2.1,.string a.2.2,.int .i64 b.1,.int .i64 b.2.1,.string b.2.2] 24)).ownsRow B 24 3 (.slice (some ⟨H,0,none⟩) 2 2) 2 (Qai [a,b]):=by
 subst h
 exact QkC W B a b j
theorem Qgv {w:World} {v:Value} {rs:List (List Vl)} (h:QaC w v rs) (j:0<rs.length):∃b o c,v=.slice (some ⟨b,o,none⟩) rs.length c/\b<w.heap.size/\Qdm w b o rs:=by
 obtain⟨a,c,rfl,y⟩:=h
 rcases y with h|⟨b,o,rfl,z,q⟩
 ·rw[h] at j;simp at j
 ·exact⟨b,o,c,rfl,z,q⟩
theorem Qjq {w:World} {b o i m:Nat} {rs:List (List Vl)} (h:Qdm w b o rs) (D:i<rs.length) (y:rs[i].length=m) (F:1<=m):∃j q xc,w.cell? ⟨b,o+i,none⟩=some (.slice (some ⟨j,q,none⟩) m xc)/\j<w.heap.size/\QaK w j q rs[i]:=by
 obtain⟨u,A,a,c,rfl,-,z⟩:=h i D
 rw[y] at A
 rcases z with h|⟨j,q,rfl,E,B⟩
 ·rw[h] at y;simp at y;omega
 ·exact⟨j,q,c,A,E,B⟩
theorem QeH (v:Value) (us:List Value) (rs:List (List Vl)) (B m p q:Nat) (w:World) (hv:w.ownsRow B 57 1 v rs.length us) (hH:Qac w B us rs) (hl:∀r∈rs,r.length=m) (h1:1<=m) (h6:m<=100) (bW:rs.length<=100) (hp:p<m) (hq:q<m) (aK:∀r∈rs,Qau (vAt r q).2.1) (hsz:∀r∈rs,∀x∈r,x.2.2.size<=maxLen) (a6:B<=w.heap.size):
 Calls Tryz.prog 74 #[v,.int .i64 p,.int .i64 q,.string ⟨#[115,117,109]⟩] w fun e w'=>Below B w w'/\Qf8 v w w'/\(((∀g∈QdN p q (QaR [p] rs),Qau g.2)/\∃v' us',e=.returned (.tuple #[v',.nilIface])/\w'.ownsRow B 57 1 v' (Qao (QdN p q (QaR [p] rs))).length us'/\Qac w' B us' (Qao (QdN p q (QaR [p] rs))))\/((¬∀g∈QdN p q (QaR [p] rs),Qau g.2)/\e=.returned (.tuple #[.slice none 0 0,Qbp 2]))):=by
 obtain⟨i0,hi,aG,aw,ay⟩:=info_parts Tryz.infoGrp
 obtain⟨i1,bG,bV,bF,b7⟩:=info_parts Tryz.infoRow
 have bb:(w.alloc (.cells #[.int .i64 p] 3)).ownsRow w.heap.size 3 1 (.slice (some ⟨w.heap.size,0,none⟩) 1 1) 1 (Qa5 [p]):=⟨by simp[Qa5],Or.inr ⟨w.heap.size,1,#[.int .i64 p],rfl,Nat.le_refl _,by show(w.heap.push _)[w.heap.size]? =_;simp,by omega,by unfold maxLen;omega,by simp,by simp[Qa5]⟩⟩
 have aX:=Hk (QeG v (.slice (some ⟨w.heap.size,0,none⟩) 1 1) us rs B w.heap.size m [p] (w.alloc (.cells #[.int .i64 p] 3)) (hv.alloc _) (hH.below (Qab _ _)) hl h1 h6 bW bb (by simp) (by simp) (by simpa using hp) (by simp;omega))
 have av:=Hk (Ai hl (Ai aK hsz))
 obtain⟨va,ba,rfl⟩:=Qae hv
 clear bb hv hH hl aK hsz
 go_enter Tryz.func74,Tryz.ntmps74
 go_wp2_with (go_at_call 70;fail)
 refine aX.out.mono ?_
 rintro e F ⟨ct,j,rfl,q1,q2,aV,bd,a4,bk⟩
 have ap:j=QaR [p] rs:=Stb.sortL_is (Qgo [p]) q1 q2
 have aP:j.length=rs.length:=by rw[ap,Qb1]
 have aZ:=Hk ap
 have ax:∀r∈j,r∈rs:=fun r hr=>(q2.mem (Qgo [p])).2 hr
 have O:=Hk (show(∀r∈j,r.length=m)/\(∀r∈j,Qau (vAt r q).2.1)/\(∀r∈j,∀x∈r,x.2.2.size<=maxLen) from⟨fun r hr=>av.out.1 r (ax r hr),fun r hr=>av.out.2.1 r (ax r hr),fun r hr=>av.out.2.2 r (ax r hr)⟩)
 have ak:=Hk (show Below B w F from((Below.refl _ _).alloc a6 _).trans a4)
 have bh:=Hk (show QaC F (.slice va rs.length ba) j from QbA (by rw[aP];exact aV) bd)
 have be:=Hk (show Qf8 (.slice va rs.length ba) w F from fun p hp hne=>(bk p (by simp;omega) hne).trans ((Qab w _).cell hp))
 rw[<-aP] at bh⊢
 have h60':j.length<=100:=by omega
 have aJ:B<=F.heap.size:=Nat.le_trans a6 (by have:=ak.out.size;omega)
 clear ap aP ax q1 q2 aV bd a4 bk aX av
 go_wp2
 go_loopg [10,25] j.length (fun g1 l i wr=>∃(k:Nat) (I:List Gr) (A:Nat),k<=j.length/\i=.int .i64 k/\j.length-k<=g1/\wr.ownsRow F.heap.size 153 4 l A (Qay I)/\Aside (QdN p q (j.take k)=I/\Below F.heap.size F wr/\I.length=A))
 case atStart=>exact⟨0,[],0,Nat.zero_le _,rfl,by omega,World.ownsRow_nil _ _ _ _,rfl,Below.refl _ _,rfl⟩
 case round=>
  obtain⟨k,I,A,hk,rfl,hg,au,T⟩:=hrel
  obtain⟨la,lc,rfl⟩:=Qae au
  have HO:=Hk au
  have Z:=Hk T.out.1
  have M:=Hk T.out.2.2
  have co:=T.out.2.1.size
  have bT:A<=100:=by have h1:=QeF p q (j.take k);rw[Z.out,List.length_take] at h1;have:=M.out;omega
  clear au
  by_cases hlt:k<j.length
  ·have bp:(k:Int)<(j.length:Int):=by omega
   obtain⟨b1,o1,c1,bg,bs,aL⟩:=Qgv bh.out (by omega)
   simp only[Value.slice.injEq,true_and] at bg
   obtain⟨rfl,rfl⟩:=bg
   obtain⟨xb,xo,xc,a9,aW,aq⟩:=Qjq aL hlt (O.out.1 _ (List.getElem_mem hlt)) h1
   have hxu':=cK T.out.2.1 bs a9
   obtain⟨e0,e1,e2⟩:=(aq.below T.out.2.1 aW) p (by rw[O.out.1 _ (List.getElem_mem hlt)];exact hp)
   obtain⟨-,f1,-⟩:=(aq.below T.out.2.1 aW) q (by rw[O.out.1 _ (List.getElem_mem hlt)];exact hq)
   have HRA':=Hk (QbB (r:=j[k]) (k:=p) (by rw[O.out.1 _ (List.getElem_mem hlt)];exact hp))
   have HRN':=Hk (QbB (r:=j[k]) (k:=q) (by rw[O.out.1 _ (List.getElem_mem hlt)];exact hq))
   have aU:=Hk (O.out.2.1 _ (List.getElem_mem hlt))
   obtain⟨a,ha⟩:∃a,vAt j[k] p=a:=⟨_,rfl⟩
   obtain⟨num,aA⟩:∃n,(vAt j[k] q).2.1=n:=⟨_,rfl⟩
   rw[<-HRA'.out,ha] at e0 e1 e2
   rw[<-HRN'.out,aA] at f1
   have V:=Hk ha
   have al:=Hk aA
   have aY:Qau num:=by have:=aU.out;rw[aA] at this;exact this
   unfold Qau at aY
   obtain⟨ce,cm⟩:=aY
   have cn:(p:Int)<(m:Int):=by omega
   have cp:(q:Int)<(m:Int):=by omega
   clear a9 aL aq ha aA HRA' HRN' aU
   rcases List.eq_nil_or_concat I with ag|⟨E,g,ag⟩
   ·have bM:A=0:=by rw[<-M.out,ag];rfl
    subst bM
    have bq:=Hk ag
    clear ag
    have ae:=Hk (show QdN p q (j.take (k+1))=I++[(a,num)] by rw[Qb8 p q j k hlt,Z.out,QcT (fun g' hg'=>by rw[bq.out] at hg';simp at hg'),V.out,al.out])
    have aa:=Hk (show Qay (I++[(a,num)])=Qay I++[.int .i64 a.1,.int .i64 a.2.1,.string a.2.2,.int .i64 num] by rw[QaN];rfl)
    go_wp2
    go_quiet (fail)
    go_wp2_with (at_builtin;refine wpList_append_own _ rfl _ _ 151 rfl F.heap.size 153 i0 (.agg #[.int .i64 0,.int .i64 0,.string ⟨#[]⟩,.int .i64 0]) 4 40 Tryz.underlying151 hi aG aw ay rfl (by decide) _ _ _ rfl ((Qbe HO.out _).alloc _) ⟨wr.heap.size,0,none⟩ 1 1 [.int .i64 a.1,.int .i64 a.2.1,.string a.2.2,.int .i64 num] rfl rfl (Qgs _ _ _ _ _ _) (Qli _ _ _ _) ?c3 ?c4 ?c5 ?_)
    case c3=>unfold maxLen;omega
    case c4=>omega
    case c5=>simp;omega
    intro v' w5 o y _
    have D:Below F.heap.size F w5:=((below_drewN T.out.2.1 _).alloc (by show F.heap.size<=wr.heap.size;omega) _).grown y (by simp;omega) (fun z hz=>(HO.out.lt z hz).1)
    rw[<-aa.out] at o
    have U:=Hk (Ai o D)
    clear o y D
    go_wp2
    go_roundg (j.length-(k+1))
    case measure=>omega
    case rel=>exact⟨k+1,I++[(a,num)],0+1,by omega,by go_num,Nat.le_refl _,U.out.1,ae.out,U.out.2,by rw[List.length_append,M.out];rfl⟩
   ·rw[List.concat_eq_append] at ag
    subst ag
    obtain⟨N,rfl⟩:∃N,A=N+1:=⟨E.length,by have:=M.out;simp at this;omega⟩
    have hGl':E.length=N:=by have:=M.out;simp at this;exact this
    have hO:=HO.out
    rw[<-hGl'] at hO
    obtain⟨gb,rfl,bU,am,g0,g1,g2,g3,gf⟩:=Qlh hO
    rw[hGl'] at g0 g1 g2 g3
    have b8:((N+1:Nat):Int)-1=(N:Int):=by omega
    have bS:¬((N:Int)<0):=by omega
    have cq:decide ((N:Int)<0)=false:=decide_eq_false bS
    have HGL':=Hk hGl'
    have aC:=Hk (Qdf p q (j.take k) (fun r hr=>O.out.2.1 r (List.mem_of_mem_take hr)) g (by rw[Z.out];simp))
    have bI:((j.take k).length:Int)<=100:=by rw[List.length_take];omega
    have bY: -100000000000<=g.2/\g.2<=100000000000:=by
     have h:=aC.out
     omega
    obtain⟨cl,cf⟩:=bY
    have cw:=gf (N*4+3)
    have bJ:=Hk (fun(W:World) (hW:W.ownsRow F.heap.size 153 4 (.slice (some ⟨gb,0,none⟩) (N+1) lc) (N+1) (Qay (E++[g]))) (t:Int)=>show(W.setCell ⟨gb,N*4+3,none⟩ (.int .i64 t)).ownsRow F.heap.size 153 4 (.slice (some ⟨gb,0,none⟩) (N+1) lc) (N+1) (Qay (E++[(g.1,t)])) by rw[<-hGl'] at hW⊢;exact Qjp hW t)
    clear hO hGl' aC bI gf
    by_cases d0:g.1.1=a.1
    ·by_cases d1:g.1.2.1=a.2.1
     ·by_cases d2:g.1.2.2.toList=a.2.2.toList
      ·have aD:g.1=a:=Prod.ext d0 (Prod.ext d1 (QbS d2))
       have b5:=Hk (show QdN p q (j.take (k+1))=E++[(a,g.2+num)] by rw[Qb8 p q j k hlt,Z.out,Qgr (by rw[V.out];exact aD),al.out,aD])
       have bN:=Hk aD
       have cc:IntKind.i64.wrap (g.2+num)=g.2+num:=by rw[IntKind.wrap_i64];omega
       have d0':(g.1.1==a.1)=true:=by simp[d0]
       have d1':(g.1.2.1==a.2.1)=true:=by simp[d1]
       have d2':(g.1.2.2.toList==a.2.2.toList)=true:=by simp[d2]
       clear aD
       go_wp2
       go_quiet (fail)
       go_wp2
       go_roundg (j.length-(k+1))
       case measure=>omega
       case rel=>exact⟨k+1,E++[(a,g.2+num)],N+1,by omega,by go_num,Nat.le_refl _,by rw[<-bN.out];exact bJ.out _ (Qbe HO.out _) _,b5.out,(below_drewN T.out.2.1 _).setCell (by show F.heap.size<=gb;exact bU) _,by simp[HGL'.out]⟩
      ·have d0':(g.1.1==a.1)=true:=by simp[d0]
       have d1':(g.1.2.1==a.2.1)=true:=by simp[d1]
       have d2':(g.1.2.2.toList==a.2.2.toList)=false:=by simp[d2]
       have ao:=Hk (show g.1≠a from fun e=>d2 (by rw[e]))
       have ae:=Hk (show QdN p q (j.take (k+1))=(E++[g])++[(a,num)] by rw[Qb8 p q j k hlt,Z.out,QcT (fun g' hg'=>by rw[V.out];simp at hg';rw[<-hg'];exact ao.out),V.out,al.out])
       have aa:=Hk (show Qay ((E++[g])++[(a,num)])=Qay (E++[g])++[.int .i64 a.1,.int .i64 a.2.1,.string a.2.2,.int .i64 num] by rw[QaN];rfl)
       go_wp2
       go_quiet (fail)
       go_wp2_with (at_builtin;refine wpList_append_own _ rfl _ _ 151 rfl F.heap.size 153 i0 (.agg #[.int .i64 0,.int .i64 0,.string ⟨#[]⟩,.int .i64 0]) 4 40 Tryz.underlying151 hi aG aw ay rfl (by decide) _ _ _ rfl ((Qbe HO.out _).alloc _) ⟨wr.heap.size,0,none⟩ 1 1 [.int .i64 a.1,.int .i64 a.2.1,.string a.2.2,.int .i64 num] rfl rfl (Qgs _ _ _ _ _ _) (Qli _ _ _ _) ?c3 ?c4 ?c5 ?_)
       case c3=>unfold maxLen;omega
       case c4=>omega
       case c5=>simp;omega
       intro v' w5 o y _
       have D:Below F.heap.size F w5:=((below_drewN T.out.2.1 _).alloc (by show F.heap.size<=wr.heap.size;omega) _).grown y (by simp;omega) (fun z hz=>(HO.out.lt z hz).1)
       rw[<-aa.out] at o
       have U:=Hk (Ai o D)
       clear o y D
       go_wp2
       go_roundg (j.length-(k+1))
       case measure=>omega
       case rel=>exact⟨k+1,(E++[g])++[(a,num)],(N+1)+1,by omega,by go_num,Nat.le_refl _,U.out.1,ae.out,U.out.2,by rw[List.length_append,M.out];rfl⟩
     ·have d0':(g.1.1==a.1)=true:=by simp[d0]
      have d1':(g.1.2.1==a.2.1)=false:=by simp[d1]
      have ao:=Hk (show g.1≠a from fun e=>d1 (by rw[e]))
      have ae:=Hk (show QdN p q (j.take (k+1))=(E++[g])++[(a,num)] by rw[Qb8 p q j k hlt,Z.out,QcT (fun g' hg'=>by rw[V.out];simp at hg';rw[<-hg'];exact ao.out),V.out,al.out])
      have aa:=Hk (show Qay ((E++[g])++[(a,num)])=Qay (E++[g])++[.int .i64 a.1,.int .i64 a.2.1,.string a.2.2,.int .i64 num] by rw[QaN];rfl)
      go_wp2
      go_quiet (fail)
      go_wp2_with (at_builtin;refine wpList_append_own _ rfl _ _ 151 rfl F.heap.size 153 i0 (.agg #[.int .i64 0,.int .i64 0,.string ⟨#[]⟩,.int .i64 0]) 4 40 Tryz.underlying151 hi aG aw ay rfl (by decide) _ _ _ rfl ((Qbe HO.out _).alloc _) ⟨wr.heap.size,0,none⟩ 1 1 [.int .i64 a.1,.int .i64 a.2.1,.string a.2.2,.int .i64 num] rfl rfl (Qgs _ _ _ _ _ _) (Qli _ _ _ _) ?c3 ?c4 ?c5 ?_)
      case c3=>unfold maxLen;omega
      case c4=>omega
      case c5=>simp;omega
      intro v' w5 o y _
      have D:Below F.heap.size F w5:=((below_drewN T.out.2.1 _).alloc (by show F.heap.size<=wr.heap.size;omega) _).grown y (by simp;omega) (fun z hz=>(HO.out.lt z hz).1)
      rw[<-aa.out] at o
      have U:=Hk (Ai o D)
      clear o y D
      go_wp2
      go_roundg (j.length-(k+1))
      case measure=>omega
      case rel=>exact⟨k+1,(E++[g])++[(a,num)],(N+1)+1,by omega,by go_num,Nat.le_refl _,U.out.1,ae.out,U.out.2,by rw[List.length_append,M.out];rfl⟩
    ·have d0':(g.1.1==a.1)=false:=by simp[d0]
     have ao:=Hk (show g.1≠a from fun e=>d0 (by rw[e]))
     have ae:=Hk (show QdN p q (j.take (k+1))=(E++[g])++[(a,num)] by rw[Qb8 p q j k hlt,Z.out,QcT (fun g' hg'=>by rw[V.out];simp at hg';rw[<-hg'];exact ao.out),V.out,al.out])
     have aa:=Hk (show Qay ((E++[g])++[(a,num)])=Qay (E++[g])++[.int .i64 a.1,.int .i64 a.2.1,.string a.2.2,.int .i64 num] by rw[QaN];rfl)
     go_wp2
     go_quiet (fail)
     go_wp2_with (at_builtin;refine wpList_append_own _ rfl _ _ 151 rfl F.heap.size 153 i0 (.agg #[.int .i64 0,.int .i64 0,.string ⟨#[]⟩,.int .i64 0]) 4 40 Tryz.underlying151 hi aG aw ay rfl (by decide) _ _ _ rfl ((Qbe HO.out _).alloc _) ⟨wr.heap.size,0,none⟩ 1 1 [.int .i64 a.1,.int .i64 a.2.1,.string a.2.2,.int .i64 num] rfl rfl (Qgs _ _ _ _ _ _) (Qli _ _ _ _) ?c3 ?c4 ?c5 ?_)
     case c3=>unfold maxLen;omega
     case c4=>omega
     case c5=>simp;omega
     intro v' w5 o y _
     have D:Below F.heap.size F w5:=((below_drewN T.out.2.1 _).alloc (by show F.heap.size<=wr.heap.size;omega) _).grown y (by simp;omega) (fun z hz=>(HO.out.lt z hz).1)
     rw[<-aa.out] at o
     have U:=Hk (Ai o D)
     clear o y D
     go_wp2
     go_roundg (j.length-(k+1))
     case measure=>omega
     case rel=>exact⟨k+1,(E++[g])++[(a,num)],(N+1)+1,by omega,by go_num,Nat.le_refl _,U.out.1,ae.out,U.out.2,by rw[List.length_append,M.out];rfl⟩
  ·have bp:¬((k:Int)<(j.length:Int)):=by omega
   have az:=Hk (show QdN p q j=I by rw[<-Z.out,List.take_of_length_le (by omega)])
   have aC:=Hk (Qdf p q j (fun r hr=>O.out.2.1 r hr))
   have bK:=Hk (show∀g∈I,g.1.2.2.size<=maxLen from by rw[<-az.out];exact QkB p q j (fun r hr=>Qh2 hp (O.out.1 r hr) (O.out.2.2 r hr)))
   rw[az.out] at aC
   have cx:A<=100:=bT
   obtain⟨wa,bE⟩:∃wa,wa=wr:=⟨_,rfl⟩
   subst bE
   have bX:=Hk (fun k (hk:k<I.length)=>Qgt HO.out M.out k hk)
   go_wp2
   go_loopg [15,87] A (fun g2 l2 i wr2=>∃(t:Nat) (aB:List Value),t<=A/\i=.int .i64 t/\A-t<=g2/\wr2.ownsRow wa.heap.size 57 1 l2 t aB/\Aside (Qac wr2 wa.heap.size aB (Qao (I.take t))/\Below wa.heap.size wa wr2/\∀g∈I.take t,Qau g.2))
   case atStart=>exact⟨0,[],Nat.zero_le _,rfl,by omega,World.ownsRow_nil _ _ _ _,by simpa [Qao] using Qac.nil _ _,Below.refl _ _,by simp⟩
   case round=>
    obtain⟨t,aB,ht,rfl,cv,ah,K⟩:=hrel
    obtain⟨cr,cu,rfl⟩:=Qae ah
    have aE:=Hk ah
    clear ah
    have b9:=K.out.2.1.size
    by_cases htl:t<A
    ·have br:(t:Int)<(A:Int):=by omega
     have aO:t<I.length:=by have:=M.out;omega
     obtain⟨gb,bB,am,z0,z1,z2,z3⟩:=bX.out t aO
     subst bB
     have y0:=cK K.out.2.1 am z0
     have y1:=cK K.out.2.1 am z1
     have y2:=cK K.out.2.1 am z2
     have y3:=cK K.out.2.1 am z3
     have bi:=Hk (List.getElem_mem aO)
     have a8:=Hk (show I.take (t+1)=I.take t++[I[t]] from List.take_succ_eq_append_getElem aO)
     generalize I[t]=g at*
     clear z0 z1 z2 z3
     by_cases hin:Qau g.2
     ·have af:=Hk (fun W=>Qeu g.2 W hin)
      unfold aggV at af
      have aM:=Hk hin
      clear hin
      go_wp2_with (first|(go_at_call 93;refine(af.out _).mono ?_;rintro e w6 ⟨rfl,J⟩;have k0:=(J.cell (p:=⟨wr.heap.size,0,none⟩) (by simp)).trans (World.cell?_alloc_at _ _ _ _ rfl);have k1:=(J.cell (p:=⟨wr.heap.size,1,none⟩) (by simp)).trans (World.cell?_alloc_at _ _ _ _ rfl);have k2:=(J.cell (p:=⟨wr.heap.size,2,none⟩) (by simp)).trans (World.cell?_alloc_at _ _ _ _ rfl);have hs6':=J.size;simp at hs6' k0 k1 k2;have bL:wr.heap.size<w6.heap.size:=by omega)|(at_builtin;refine wpList_append_own _ rfl _ _ 34 rfl wa.heap.size 57 i1 (.slice none 0 0) 1 24 Tryz.underlying34 bG bV bF b7 rfl (by decide) _ _ _ rfl ((((Qaf (aE.out.alloc _) J).alloc _).alloc _).alloc _) ⟨w6.heap.size+1+1,0,none⟩ 1 1 [.slice (some ⟨w6.heap.size+1,0,none⟩) 2 2] rfl rfl (QbG _ _ _ _ (by simp)) (QbZ _ _ _) ?c3 ?c4 ?c5 ?_))
      case c3=>unfold maxLen;omega
      case c4=>omega
      case c5=>simp;omega
      intro v' w5 o y _
      have aN:=((((Qaf (aE.out.alloc (.cells #[.int .i64 g.1.1,.int .i64 g.1.2.1,.string g.1.2.2,.int .i64 g.2] 153)) J).alloc (.cells #[.int .i64 1,.int .i64 g.2,.string ⟨#[]⟩] 24)).alloc (.cells #[.int .i64 g.1.1,.int .i64 g.1.2.1,.string g.1.2.2,.int .i64 1,.int .i64 g.2,.string ⟨#[]⟩] 24)).alloc (.cells #[.slice (some ⟨w6.heap.size+1,0,none⟩) 2 2] 57))
      have D:Below wa.heap.size wa w5:=((Qaa (Qaa (Qaa (Qaa K.out.2.1 (Qab _ (.cells #[.int .i64 g.1.1,.int .i64 g.1.2.1,.string g.1.2.2,.int .i64 g.2] 153))) J) (Qab _ (.cells #[.int .i64 1,.int .i64 g.2,.string ⟨#[]⟩] 24))) (Qab _ (.cells #[.int .i64 g.1.1,.int .i64 g.1.2.1,.string g.1.2.2,.int .i64 1,.int .i64 g.2,.string ⟨#[]⟩] 24))).alloc (by simp;omega) (.cells #[.slice (some ⟨w6.heap.size+1,0,none⟩) 2 2] 57)).grown y (by simp;omega) (fun z hz=>(aE.out.lt z hz).1)
      have a7:=(((((K.out.1.below (Qab _ (.cells #[.int .i64 g.1.1,.int .i64 g.1.2.1,.string g.1.2.2,.int .i64 g.2] 153))).below J).below (Qab _ (.cells #[.int .i64 1,.int .i64 g.2,.string ⟨#[]⟩] 24))).below (Qab _ (.cells #[.int .i64 g.1.1,.int .i64 g.1.2.1,.string g.1.2.2,.int .i64 1,.int .i64 g.2,.string ⟨#[]⟩] 24))).below (Qab _ (.cells #[.slice (some ⟨w6.heap.size+1,0,none⟩) 2 2] 57))).grow aN y
      have aQ:=(Qgu (w6.alloc (.cells #[.int .i64 1,.int .i64 g.2,.string ⟨#[]⟩] 24)) wa.heap.size (w6.heap.size+1) g.1 (1,g.2,⟨#[]⟩) (by simp;omega) (by simp)).alloc (.cells #[.slice (some ⟨w6.heap.size+1,0,none⟩) 2 2] 57)
      have bf:=aQ.kept y (Qch (by decide) aQ aN)
      have aI:=a7.snoc (r:=[g.1,(1,g.2,⟨#[]⟩)]) bf (fun x hx=>by
       simp at hx
       rcases hx with rfl|rfl
       ·exact bK.out g bi.out
       ·exact Nat.zero_le _)
      have bc:Qao (I.take t)++[[g.1,(1,g.2,⟨#[]⟩)]]=Qao (I.take (t+1)):=by rw[a8.out];simp[Qao]
      rw[bc] at aI
      have U:=Hk (Ai o (Ai aI D))
      have b4:=Hk (show∀g'∈I.take (t+1),Qau g'.2 from fun g' hg'=>by
       rw[a8.out] at hg'
       rcases List.mem_append.1 hg' with h|h
       ·exact K.out.2.2 g' h
       ·simp at h
        rw[h]
        exact aM.out)
      clear o y aI D a7 bf aN aQ bc
      go_wp2
      go_roundg (A-(t+1))
      case measure=>omega
      case rel=>exact⟨t+1,_,by omega,by go_num,Nat.le_refl _,U.out.1,U.out.2.1,U.out.2.2,b4.out⟩
     ·have af:=Hk (fun W=>QdK g.2 W hin)
      unfold aggV at af
      simp only[Qh3] at af
      have aM:=Hk hin
      clear hin
      go_wp2_with (go_at_call 93;refine(af.out _).mono ?_;rintro e w6 ⟨rfl,J⟩;have k0:=(J.cell (p:=⟨wr.heap.size,0,none⟩) (by simp)).trans (World.cell?_alloc_at _ _ _ _ rfl);have k1:=(J.cell (p:=⟨wr.heap.size,1,none⟩) (by simp)).trans (World.cell?_alloc_at _ _ _ _ rfl);have k2:=(J.cell (p:=⟨wr.heap.size,2,none⟩) (by simp)).trans (World.cell?_alloc_at _ _ _ _ rfl);have hs6':=J.size;simp at hs6' k0 k1 k2;have bL:wr.heap.size<w6.heap.size:=by omega)
      refine bodyPost_ret (by simp[results,Tryz.results74,go_sem];rfl) rfl ?_
      rw[<-aZ.out,az.out]
      refine⟨ak.out.trans ((Qaa (Qaa (Qaa (Qaa T.out.2.1 K.out.2.1) (Qab _ _)) J) (Qab _ _)).mono aJ),be.out.below (Qaa (Qaa (Qaa (Qaa T.out.2.1 K.out.2.1) (Qab _ _)) J) (Qab _ _)) ak.out.size,Or.inr ⟨fun h=>aM.out (h g bi.out),rfl⟩⟩
    ·have br:¬((t:Int)<(A:Int)):=by omega
     have bj:=Hk (show I.take t=I from List.take_of_length_le (by have:=M.out;omega))
     have a5:t=A:=by omega
     have bC:=Hk (show(Qao I).length=t by unfold Qao;rw[List.length_map,M.out,a5])
     go_wp2
     refine bodyPost_ret (by simp[results,Tryz.results74,go_sem];rfl) rfl ?_
     rw[<-aZ.out,az.out,bC.out]
     refine⟨ak.out.trans ((Qaa T.out.2.1 K.out.2.1).mono aJ),be.out.below (Qaa T.out.2.1 K.out.2.1) ak.out.size,Or.inl ⟨fun a b c n hg=>K.out.2.2 ((a,b,c),n) (by rw[bj.out];exact hg),_,rfl,aB,(by have h:=aE.out;rw[a5] at h⊢;exact Qam (show B<=wa.heap.size by omega) h),?_⟩⟩
     have h:=K.out.1
     rw[bj.out] at h
     exact h.mono (by omega)
end Go.Proofs.YtofidnijfnhpaaaGreatDoor
