import Derived.Deep.MidRow
import Derived.Test.YtofidnijfnhpaaaGreatDoorQ01
import Derived.Test.YtofidnijfnhpaaaGreatDoorQ44
import Derived.Test.YtofidnijfnhpaaaGreatDoorQ48
import Derived.Test.YtofidnijfnhpaaaGreatDoorQ22
import Derived.Test.YtofidnijfnhpaaaGreatDoorQ06
import Derived.Test.YtofidnijfnhpaaaGreatDoorQ41
import Derived.Test.YtofidnijfnhpaaaGreatDoorQ08
import Derived.Test.YtofidnijfnhpaaaGreatDoorQ42
import Derived.Test.YtofidnijfnhpaaaGreatDoorQ17
set_option linter.unusedSimpArgs false
set_option linter.unusedVariables false
set_option linter.unusedSectionVars false
set_option maxRecDepth 1000000
set_option maxHeartbeats 16000000
namespace Go.Proofs.YtofidnijfnhpaaaGreatDoor
open Go.RowKit
def QeV (m:Bool) (p q:Nat) (rs:List (List Vl)):List Gr:=if m then QdN p q rs else QdO p q rs
def QmC (m:Bool) (p q:Nat) (gs:List Gr) (r:List Vl):List Gr:=if m then Qcz p q gs r else QcC p q gs r
def opB (m:Bool):ByteArray:=if m then⟨#[115,117,109]⟩ else⟨#[109,97,120]⟩
theorem Qj6 (m:Bool) (p q:Nat) (rs:List (List Vl)) (k:Nat) (h:k<rs.length):QeV m p q (rs.take (k+1))=QmC m p q (QeV m p q (rs.take k)) rs[k]:=by
 cases m
 ·exact Qb9 p q rs k h
 ·exact Qb8 p q rs k h
theorem Qf1 (m:Bool) (p q:Nat) (rs:List (List Vl)):(QeV m p q rs).length<=rs.length:=by
 cases m
 ·exact QeI p q rs
 ·exact QeF p q rs
theorem QiV (m:Bool) (p q:Nat) (rs:List (List Vl)) (h:∀r∈rs,Qau (vAt r q).2.1):∀g∈QeV m p q rs,-(1000000000*(rs.length:Int))<=g.2/\g.2<=1000000000*(rs.length:Int):=by
 cases m
 ·exact Qdg p q rs h
 ·exact Qdf p q rs h
theorem Qj7 (m:Bool) (v:Value) (B:Nat) (us:List Value) (gs:List Gr) (r:List Vl) (p q:Nat) (w:World) (y:w.ownsRow B 57 1 v gs.length us) (E:Qac w B us (Qao gs)) (U:us.Pairwise Qbt) (hsz:(vAt r p).2.2.size<=maxLen) (F:B<=w.heap.size) (V:gs.length<=1000) (hg:∀g∈gs,-100000000000<=g.2/\g.2<=100000000000) (hb:Qau (vAt r q).2.1):
 Calls Tryz.prog 37 #[v,.agg #[.int .i64 (vAt r p).1,.int .i64 (vAt r p).2.1,.string (vAt r p).2.2],.agg #[.int .i64 1,.int .i64 (vAt r q).2.1,.string ⟨#[]⟩],.string (opB m)] w fun e w'=>QcI e w' B w (QmC m p q gs r):=by
 rcases List.eq_nil_or_concat gs with rfl|⟨j,g,J⟩
 ·obtain⟨D,A,rfl⟩:=Qae y
  have:=QiU D A B us (vAt r p) (vAt r q).2.1 (opB m) w y hsz F
  cases m<;>exact this
 ·rw[List.concat_eq_append] at J
  subst J
  have hl:us.length=j.length+1:=by rw[E.1,QaE];simp
  rcases List.eq_nil_or_concat us with rfl|⟨o,u,K⟩
  ·simp at hl
  rw[List.concat_eq_append] at K
  subst K
  have hl':o.length=j.length:=by simpa using hl
  obtain⟨D,A,rfl⟩:=Qae y
  rw[show(j++[g]).length=j.length+1 by simp] at y⊢
  have N:=(E.2 o.length (by simp) (by rw[QaE];simp;omega)).1
  have M:(Qao (j++[g]))[o.length]'(by rw[QaE];simp;omega)=[g.1,(1,g.2,⟨#[]⟩)]:=by
   simp only[Qcf]
   rw[List.getElem_append_right (by rw[QaE];omega)]
   simp[QaE,hl']
  rw[M] at N
  simp only[List.getElem_append_right (Nat.le_refl _),Nat.sub_self,List.getElem_cons_zero] at N
  obtain⟨T,uc,rfl⟩:=Qae N
  have z:=hg g (by simp)
  have O:=hb.1
  have Z:=hb.2
  simp only[List.length_append,List.length_cons,List.length_nil] at V
  by_cases hk:g.1=vAt r p
  ·cases m
   ·have:=QkY D T A uc B j.length o j g (vAt r p) (vAt r q).2.1 (opB false) w (Hk hk) rfl y E U hsz F rfl (by omega) z.1 z.2 O Z
    show Calls _ _ _ _ fun e w'=>QcI e w' B w (QcC p q (j++[g]) r)
    rw[QgD hk,hk]
    exact this
   ·have:=QkX D T A uc B j.length o j g (vAt r p) (vAt r q).2.1 (opB true) w (Hk hk) rfl y E U hsz F rfl (by omega) z.1 z.2 O Z
    show Calls _ _ _ _ fun e w'=>QcI e w' B w (Qcz p q (j++[g]) r)
    rw[Qgr hk,hk]
    exact this
  ·have:=QkW D T A uc B j.length o j g (vAt r p) (vAt r q).2.1 (opB m) w hk y E U hsz F rfl (by omega) z.1 z.2 O Z
   have I:∀g',(j++[g]).getLast? =some g'->g'.1≠vAt r p:=fun g' h=>by simp at h;rw[<-h];exact hk
   cases m
   ·show Calls _ _ _ _ fun e w'=>QcI e w' B w (QcC p q (j++[g]) r)
    rw[QcW I]
    exact this
   ·show Calls _ _ _ _ fun e w'=>QcI e w' B w (Qcz p q (j++[g]) r)
    rw[QcT I]
    exact this
theorem Keep2.low {R M:Nat} {w q o:World} (h:Keep2 R M w q) (j:Below w.heap.size q o):Keep2 R M w o:=
 ⟨j.os.trans h.os,j.tape.trans h.tape,j.output.trans h.output,Nat.le_trans h.size j.size,fun k hk h1 h2=>(j.block k hk).trans (h.block k hk h1 h2)⟩
theorem Qlp {w:World} {b o:Nat} {x y z:Value} (j:w.cell? ⟨b,o,none⟩=some x) (h:w.cell? ⟨b,o+1,none⟩=some y) (q:w.cell? ⟨b,o+2,none⟩=some z):w.rangeAt b o [x,y,z]:=fun k v hk=>by
 match k,hk with
 |0,hk=>simp at hk;rw[<-hk];exact j
 |1,hk=>simp at hk;rw[<-hk];exact h
 |2,hk=>simp at hk;rw[<-hk];exact q
 |k+3,hk=>simp at hk
theorem Qmh {w:World} {j:Jb} {ss:List ByteArray} (c:List Cl) {tA tB:Tb} {vcA vcB vrB:Value} (ai:j.code=8) {rs:List (List Vl)} (hM:rs.length<=100) (E:Bool) (bs:j.op=opB E) (x y:ByteArray) (N:ss=[x,y]) (p B:Nat) (T:Qak tA.1 x.data.toList=some p) (hy:Qak tA.1 y.data.toList=some B) (bv:tA.1.length<=50) (ar:∀r∈rs,r.length=tA.1.length/\∃num,Qau num/\vAt r B=(1,num,⟨#[]⟩)):Qco w j ss [c] tA tB vcA vcB vrB (rs) (fun e w'=>Qbf e w' w.heap.size (Qbl 8 [(Qao (QeV E p B rs))]) [(c,(Qao (QeV E p B rs)))]/\Below w.heap.size w w'):=by
 iterate 317 intro _
 intro O gc cc A Bx q R mp vw v1 W I
 have e1:=I.jb0
 have e2:=I.jgc
 have e3:=I.gA
 have e4:=I.AR
 have e6:=I.BR
 have e5:R<q/\q<mp/\mp<W.heap.size:=by have h1:=I.mR;have h2:=I.qR;have h3:=I.WR;omega
 obtain⟨e5,e7,e8⟩:=e5
 have e9:=I.bel.size
 have k1:W.cell? ⟨O,1,none⟩=some (.int .i64 8):=(I.job 1 (.int .i64 j.code) rfl).trans (by rw[ai])
 have a1:=I.a1
 obtain⟨sa,bR,rfl,-⟩:=I.src
 have HL:=Hk I
 obtain⟨i0,a7,bU,bd,bQ⟩:=info_parts Tryz.infoVal
 have aQ:Hid ((Tryz.prog.info? 24).map (·.size)=some 3):=Hk (by rw[a7];show some i0.size=_;rw[bd])
 have aX:=Qaj T
 have aB:=Qaj hy
 obtain⟨r0,rf⟩:=I.rows 0 (by simp)
 obtain⟨g,wc,rfl,am,ak,aY,av⟩:=I.wh (by rw[N];simp) (by rw[N];intro s hs;simp at hs;rcases hs with rfl|rfl;exact⟨_,T⟩;exact⟨_,hy⟩)
 have w0':W.cell? ⟨g,0,none⟩=some (.int .i64 p):=by
  have:=av 0 (by rw[N];simp[Qag])
  simp only[N,Qag,List.map_cons,List.map_nil,List.getElem_cons_zero,T,Option.getD_some] at this
  exact this
 have w1':W.cell? ⟨g,1,none⟩=some (.int .i64 B):=by
  have:=av 1 (by rw[N];simp[Qag])
  simp only[N,Qag,List.map_cons,List.map_nil,List.getElem_cons_succ,List.getElem_cons_zero,hy,Option.getD_some] at this
  exact this
 have k5:W.cell? ⟨O,5,none⟩=some (.string (opB E)):=by rw[<-bs];exact I.job 5 _ rfl
 rw[show ss.length=2 by rw[N];rfl] at*
 clear I av N
 obtain⟨M,aq⟩:∃M,rs.length=M:=⟨_,rfl⟩
 have aS:=Hk aq
 rw[aq] at a1 hM
 have bq:=Hk (show∀x∈[Qao (QeV E p B rs)],x.length<=100000 from fun x T=>by
  simp at T
  rw[T,QaE]
  have:=Qf1 E p B rs
  omega)
 have a6:=Hk (show∀x∈[Qao (QeV E p B rs)],∀r∈x,r.length=2 from fun x T r hr=>by
  simp at T
  rw[T] at hr
  simp only[Qao,List.mem_map] at hr
  obtain⟨_,-,rfl⟩:=hr
  rfl)
 obtain⟨n1,aP⟩:∃z,tA.1.length=z:=⟨_,rfl⟩
 rw[aP] at bv ar aX aB
 have HT:=Hk ar
 clear aq ar T hy aP
 conv=>arg 2;whnf
 go_wp2
 go_loopw [111] (fun i wr=>∃(k:Nat) (v:Value) (us:List Value),k<=M/\i=.int .i64 k/\OutO W.heap.size R 0 (Qao (QeV E p B (rs.take k))) v us wr/\us.Pairwise Qbt/\Keep2 R mp W wr) (fun i _=>M-(intOf i).toNat)
 case atStart=>exact⟨0,.slice none 0 0,[],Nat.zero_le _,rfl,⟨r0,rf,by cases E<;>exact World.ownsRow_nil _ _ _ _,by cases E<;>exact Qac.nil _ _⟩,List.Pairwise.nil,Keep2.refl _ _ _⟩
 case round=>
  obtain⟨k,v,us,hk,rfl,hO,aC,F⟩:=hrel
  have al:=(HL.out.keep F).1
  have k1':wr.cell? ⟨O,1,none⟩=some (.int .i64 8):=((HL.out.keep F).2.1 1 (.int .i64 j.code) rfl).trans (by rw[ai])
  have q0':=(HL.out.keep F).2.2.2.2.2.1
  have hsz:=F.size
  by_cases hlt:k<M
  ·have bD:(k:Int)<(M:Int):=by omega
   have ax:k<rs.length:=by have:=aS.out;omega
   obtain⟨aE,num,ay,au⟩:=HT.out rs[k] (List.getElem_mem ax)
   obtain⟨b,o,u,rfl,x0,aZ⟩:=HL.out.row F k ax
   obtain⟨J,U,rc,rfl,aU,aw,aH⟩:=QeS aZ (by omega)
   have bg:=Hk (Qj6 E p B rs k ax)
   have bn:=Hk (show(QeV E p B (rs.take k)).length<=100 by have h1:=Qf1 E p B (rs.take k);rw[List.length_take] at h1;omega)
   have br:=Hk (show∀g∈QeV E p B (rs.take k),-100000000000<=g.2/\g.2<=100000000000 from fun g hg=>by
    have h1:=QiV E p B (rs.take k) (fun r hr=>by
     obtain⟨-,n,hn,hv⟩:=HT.out r (List.mem_of_mem_take hr)
     rw[hv];exact hn) g hg
    have h2:(rs.take k).length<=100:=by rw[List.length_take];omega
    omega)
   generalize rs[k]=r at*
   generalize QeV E p B (rs.take k)=gs at*
   rw[aE] at x0
   have af:p<r.length:=by omega
   have ah:B<r.length:=by omega
   obtain⟨va,vc,rfl⟩:=Qae hO.own
   have aD:=aH r[p] (List.getElem_mem af)
   rw[<-QbB af] at aD
   have HG:=Hk (fun V (D:Below wr.heap.size wr V)=>Qj7 E (.slice va (Qao gs).length vc) W.heap.size us gs r p B V (by have:=(hO.below D).own;rw[QaE] at this⊢;exact this) (hO.held.below D) aC aD (Nat.le_trans hsz D.size) (by have:=bn.out;omega) br.out (by rw[au];exact ay))
   obtain⟨c0,c1,c2⟩:=(aw.below al aU) p af
   obtain⟨f0,f1,f2⟩:=(aw.below al aU) B ah
   rw[<-QbB af] at c0 c1 c2
   rw[<-QbB ah] at f0 f1 f2
   rw[au] at f0 f1 f2 HG
   have bi:J≠R:=by omega
   have bf:J<W.heap.size:=by omega
   have aR:=(F.cell (p:=⟨O,5,none⟩) (show O<_ by omega) (show O≠R by omega) (show O≠mp by omega)).trans k5
   have a4:=(F.cell (p:=⟨g,0,none⟩) am ak aY).trans w0'
   have aT:=(F.cell (p:=⟨g,1,none⟩) am ak aY).trans w1'
   have HS:=Hk (show∀V:World,(∀k,k<W.heap.size->k≠R->V.heap[k]? =wr.heap[k]?)->(V.cell? ⟨q,0,none⟩=some (.slice (some ⟨R,0,none⟩) 1 1)/\V.cell? ⟨g,0,none⟩=some (.int .i64 p)/\V.cell? ⟨g,1,none⟩=some (.int .i64 B)/\V.cell? ⟨O,5,none⟩=some (.string (opB E))/\V.rangeAt J (U+p*3) [.int .i64 (vAt r p).1,.int .i64 (vAt r p).2.1,.string (vAt r p).2.2]/\V.rangeAt J (U+B*3) [.int .i64 1,.int .i64 num,.string ⟨#[]⟩]) from fun V D=>by
    have Z:∀o,V.cell? ⟨J,o,none⟩=wr.cell? ⟨J,o,none⟩:=fun o=>World.cell?_of_block (w:=wr) (D J bf bi)
    exact⟨(World.cell?_of_block (w:=wr) (D q (by omega) (by omega))).trans q0',(World.cell?_of_block (w:=wr) (D g am ak)).trans a4,(World.cell?_of_block (w:=wr) (D g am ak)).trans aT,(World.cell?_of_block (w:=wr) (D O (by omega) (by omega))).trans aR,Qlp ((Z _).trans c0) ((Z _).trans c1) ((Z _).trans c2),Qlp ((Z _).trans f0) ((Z _).trans f1) ((Z _).trans f2)⟩)
   have v6:wr.drew.cell? ⟨R,0,none⟩=some (.slice va (Qao gs).length vc):=by simpa using hO.cell
   have HO:=Hk (Ai hO (Ai aC F))
   have q6:=HS.out wr.drew (fun _ _ _=>rfl)
   have bP:(p:Int)<(n1:Int):=by omega
   have bG:(B:Int)<(n1:Int):=by omega
   have bc:=Hk hO.frz
   have bT:=Hk aE
   generalize bS:(Qao gs).length=GL at*
   clear hO aC F aZ aw aH al q0' c0 c1 c2 f0 f1 f2 aR a4 aT au ay aD aE af ah aX aB
   go_upto_region 65 with fail
   rename_i K2 ae
   have aA:=Hk ae
   clear ae
   refine wp_region_held_drew (S:=fun V=>V.cell? ⟨q,0,none⟩=some (.slice (some ⟨R,0,none⟩) 1 1)/\V.cell? ⟨g,0,none⟩=some (.int .i64 p)/\V.cell? ⟨g,1,none⟩=some (.int .i64 B)/\V.cell? ⟨O,5,none⟩=some (.string (opB E))/\V.rangeAt J (U+p*3) [.int .i64 (vAt r p).1,.int .i64 (vAt r p).2.1,.string (vAt r p).2.2]/\V.rangeAt J (U+B*3) [.int .i64 1,.int .i64 num,.string ⟨#[]⟩]) (by kernel_rfl) q6 (fun hH=>?_)
   refine wpAnyH_take (i:=0) (v:=.slice (some ⟨R,0,none⟩) 1 1) rfl (by kernel_rfl) (by kernel_rfl) (by kernel_rfl) (fun _ _ _ h=>h) (Or.inl ⟨by rfl,?_⟩) (by assumption) ?_
   ·intro V D
    go_simp
   simp only[List.getElem_toArray,List.getElem_cons_zero,List.getElem_cons_succ,Act.put,List.setIfInBounds_toArray,List.set_cons_zero,List.set_cons_succ]
   refine wpAnyH_take (i:=1) (v:=.slice (some ⟨R,0,none⟩) 1 1) rfl (by kernel_rfl) (by kernel_rfl) (by kernel_rfl) (fun _ _ _ h=>h) (Or.inl ⟨by rfl,?_⟩) (by assumption) ?_
   ·intro V D
    go_simp
   simp only[List.getElem_toArray,List.getElem_cons_zero,List.getElem_cons_succ,Act.put,List.setIfInBounds_toArray,List.set_cons_zero,List.set_cons_succ]
   refine wpAnyH_take (i:=2) (v:=.pointer (some ⟨R,0,none⟩)) rfl (by kernel_rfl) (by kernel_rfl) (by kernel_rfl) (fun _ _ _ h=>h) (Or.inl ⟨by rfl,?_⟩) (by assumption) ?_
   ·intro V D
    go_simp
   simp only[List.getElem_toArray,List.getElem_cons_zero,List.getElem_cons_succ,Act.put,List.setIfInBounds_toArray,List.set_cons_zero,List.set_cons_succ]
   refine wpAnyH_take (i:=4) (v:=.slice (some ⟨J,U,none⟩) n1 rc) rfl (by kernel_rfl) (by kernel_rfl) (by kernel_rfl) (fun _ _ _ h=>h) (Or.inl ⟨by rfl,?_⟩) (by assumption) ?_
   ·intro V D
    go_simp
   simp only[List.getElem_toArray,List.getElem_cons_zero,List.getElem_cons_succ,Act.put,List.setIfInBounds_toArray,List.set_cons_zero,List.set_cons_succ]
   refine wpAnyH_take (i:=5) (v:=.slice (some ⟨g,0,none⟩) 2 wc) rfl (by kernel_rfl) (by kernel_rfl) (by kernel_rfl) (fun _ _ _ h=>h) (Or.inl ⟨by rfl,?_⟩) (by assumption) ?_
   ·intro V D
    go_simp
   simp only[List.getElem_toArray,List.getElem_cons_zero,List.getElem_cons_succ,Act.put,List.setIfInBounds_toArray,List.set_cons_zero,List.set_cons_succ]
   refine wpAnyH_take (i:=6) (v:=.pointer (some ⟨g,0,none⟩)) rfl (by kernel_rfl) (by kernel_rfl) (by kernel_rfl) (fun _ _ _ h=>h) (Or.inl ⟨by rfl,?_⟩) (by assumption) ?_
   ·intro V D
    go_simp
   simp only[List.getElem_toArray,List.getElem_cons_zero,List.getElem_cons_succ,Act.put,List.setIfInBounds_toArray,List.set_cons_zero,List.set_cons_succ]
   refine wpAnyH_take (i:=7) (v:=.int .i64 p) rfl (by kernel_rfl) (by kernel_rfl) (by kernel_rfl) (fun _ _ _ h=>h) (Or.inl ⟨by rfl,?_⟩) (by assumption) ?_
   ·intro V D
    go_simp
   simp only[List.getElem_toArray,List.getElem_cons_zero,List.getElem_cons_succ,Act.put,List.setIfInBounds_toArray,List.set_cons_zero,List.set_cons_succ]
   refine wpAnyH_take (i:=8) (v:=.pointer (some ⟨J,U+p*3,none⟩)) rfl (by kernel_rfl) (by kernel_rfl) (by kernel_rfl) (fun _ _ _ h=>h) (Or.inl ⟨by rfl,?_⟩) (by assumption) ?_
   ·intro V D
    go_simp
   simp only[List.getElem_toArray,List.getElem_cons_zero,List.getElem_cons_succ,Act.put,List.setIfInBounds_toArray,List.set_cons_zero,List.set_cons_succ]
   refine wpAnyH_take (i:=9) (v:=.agg [.int .i64 (vAt r p).1,.int .i64 (vAt r p).2.1,.string (vAt r p).2.2].toArray) rfl (by kernel_rfl) (by kernel_rfl) (by kernel_rfl) (fun _ _ _ h=>h) (yieldsIf_load_mid (by rfl) 24 (.tmp 251) rfl J (U+p*3) rfl [.int .i64 (vAt r p).1,.int .i64 (vAt r p).2.1,.string (vAt r p).2.2] _ (fun V D=>D.2.2.2.2.1) Tryz.underlying24 rfl aQ.out) (by assumption) ?_
   try simp only[List.getElem_toArray,List.getElem_cons_zero,List.getElem_cons_succ,Act.put,List.setIfInBounds_toArray,List.set_cons_zero,List.set_cons_succ]
   refine wpAnyH_take (i:=10) (v:=.slice (some ⟨J,U,none⟩) n1 rc) rfl (by kernel_rfl) (by kernel_rfl) (by kernel_rfl) (fun _ _ _ h=>h) (Or.inl ⟨by rfl,?_⟩) (by assumption) ?_
   ·intro V D
    go_simp
   simp only[List.getElem_toArray,List.getElem_cons_zero,List.getElem_cons_succ,Act.put,List.setIfInBounds_toArray,List.set_cons_zero,List.set_cons_succ]
   refine wpAnyH_take (i:=11) (v:=.slice (some ⟨g,0,none⟩) 2 wc) rfl (by kernel_rfl) (by kernel_rfl) (by kernel_rfl) (fun _ _ _ h=>h) (Or.inl ⟨by rfl,?_⟩) (by assumption) ?_
   ·intro V D
    go_simp
   simp only[List.getElem_toArray,List.getElem_cons_zero,List.getElem_cons_succ,Act.put,List.setIfInBounds_toArray,List.set_cons_zero,List.set_cons_succ]
   refine wpAnyH_take (i:=12) (v:=.pointer (some ⟨g,1,none⟩)) rfl (by kernel_rfl) (by kernel_rfl) (by kernel_rfl) (fun _ _ _ h=>h) (Or.inl ⟨by rfl,?_⟩) (by assumption) ?_
   ·intro V D
    go_simp
   simp only[List.getElem_toArray,List.getElem_cons_zero,List.getElem_cons_succ,Act.put,List.setIfInBounds_toArray,List.set_cons_zero,List.set_cons_succ]
   refine wpAnyH_take (i:=13) (v:=.int .i64 B) rfl (by kernel_rfl) (by kernel_rfl) (by kernel_rfl) (fun _ _ _ h=>h) (Or.inl ⟨by rfl,?_⟩) (by assumption) ?_
   ·intro V D
    go_simp
   simp only[List.getElem_toArray,List.getElem_cons_zero,List.getElem_cons_succ,Act.put,List.setIfInBounds_toArray,List.set_cons_zero,List.set_cons_succ]
   refine wpAnyH_take (i:=14) (v:=.pointer (some ⟨J,U+B*3,none⟩)) rfl (by kernel_rfl) (by kernel_rfl) (by kernel_rfl) (fun _ _ _ h=>h) (Or.inl ⟨by rfl,?_⟩) (by assumption) ?_
   ·intro V D
    go_simp
   simp only[List.getElem_toArray,List.getElem_cons_zero,List.getElem_cons_succ,Act.put,List.setIfInBounds_toArray,List.set_cons_zero,List.set_cons_succ]
   refine wpAnyH_take (i:=15) (v:=.agg [.int .i64 1,.int .i64 num,.string ⟨#[]⟩].toArray) rfl (by kernel_rfl) (by kernel_rfl) (by kernel_rfl) (fun _ _ _ h=>h) (yieldsIf_load_mid (by rfl) 24 (.tmp 257) rfl J (U+B*3) rfl [.int .i64 1,.int .i64 num,.string ⟨#[]⟩] _ (fun V D=>D.2.2.2.2.2) Tryz.underlying24 rfl aQ.out) (by assumption) ?_
   try simp only[List.getElem_toArray,List.getElem_cons_zero,List.getElem_cons_succ,Act.put,List.setIfInBounds_toArray,List.set_cons_zero,List.set_cons_succ]
   refine wpAnyH_take (i:=16) (v:=.pointer (some ⟨O,5,none⟩)) rfl (by kernel_rfl) (by kernel_rfl) (by kernel_rfl) (fun _ _ _ h=>h) (Or.inl ⟨by rfl,?_⟩) (by assumption) ?_
   ·intro V D
    go_simp
   simp only[List.getElem_toArray,List.getElem_cons_zero,List.getElem_cons_succ,Act.put,List.setIfInBounds_toArray,List.set_cons_zero,List.set_cons_succ]
   refine wpAnyH_take (i:=17) (v:=.string (opB E)) rfl (by kernel_rfl) (by kernel_rfl) (by kernel_rfl) (fun _ _ _ h=>h) (Or.inl ⟨by rfl,?_⟩) (by assumption) ?_
   ·intro V D
    go_simp
   simp only[List.getElem_toArray,List.getElem_cons_zero,List.getElem_cons_succ,Act.put,List.setIfInBounds_toArray,List.set_cons_zero,List.set_cons_succ]
   refine wpAnyH_ready (rs:=[3]) (by kernel_rfl) (by simp) ?_
   refine AllReadyH.cons rfl (fun K F=>?_) AllReadyH.nil
   go_simp
   refine F.out _ _ q6 (fun hH=>?_)
   clear F K
   try simp only[List.getElem_toArray,List.getElem_cons_zero,List.getElem_cons_succ,Act.put,List.setIfInBounds_toArray,List.set_cons_zero,List.set_cons_succ]
   refine wpAnyH_ready (rs:=[18]) (by kernel_rfl) (by simp) ?_
   refine AllReadyH.cons rfl (fun K F=>?_) AllReadyH.nil
   go_simp
   go_at_call 37
   refine(HG.out _ ((Below.refl _ _).drew)).mono ?_
   rintro e w7 ⟨v7,a5,rfl,aa,ag,az,ac⟩
   have s7:=HS.out w7 (fun k hk _=>ac.block k hk)
   have ao:R<W.heap.size:=by omega
   have r7:w7.cell? ⟨R,0,none⟩=some (.slice va GL vc):=cK ac ao v6
   have f7:w7.frozen? ⟨R,0,none⟩=false:=(ac.frozen (p:=⟨R,0,none⟩) ao).trans bc.out
   have ad:=Hk (Ai aa (Ai ag (Ai az (((Below.refl W.heap.size wr).drew).trans ac))))
   obtain⟨aV,aW,rfl⟩:=Qae aa
   clear aa ag az ac
   refine F.out _ _ s7 (fun hH=>?_)
   clear F K
   try simp only[List.getElem_toArray,List.getElem_cons_zero,List.getElem_cons_succ,Act.put,List.setIfInBounds_toArray,List.set_cons_zero,List.set_cons_succ]
   refine wpAnyH_ready (rs:=[19]) (by kernel_rfl) (by simp) ?_
   refine AllReadyH.cons rfl (fun K F=>?_) AllReadyH.nil
   go_simp
   refine F.out _ _ s7 (fun hH=>?_)
   clear F K
   try simp only[List.getElem_toArray,List.getElem_cons_zero,List.getElem_cons_succ,Act.put,List.setIfInBounds_toArray,List.set_cons_zero,List.set_cons_succ]
   refine wpAnyH_ready (rs:=[20]) (by kernel_rfl) (by simp) ?_
   refine AllReadyH.cons rfl (fun K F=>?_) AllReadyH.nil
   go_simp
   refine F.out _ _ (HS.out _ (fun k hk hR=>(Below.heap_setCell w7 ⟨R,0,none⟩ _ k hR).trans (ad.out.2.2.2.block k hk))) (fun hH=>?_)
   clear F K
   try simp only[List.getElem_toArray,List.getElem_cons_zero,List.getElem_cons_succ,Act.put,List.setIfInBounds_toArray,List.set_cons_zero,List.set_cons_succ]
   refine wpAnyH_done (by kernel_rfl) ?_ _
   go_wp2
   refine aA.out _ _ ?_
   obtain⟨WE,aj⟩:∃x,x=w7.setCell ⟨R,0,none⟩ (.slice aV (QmC E p B gs r).length aW):=⟨_,rfl⟩
   have bt:OutO W.heap.size R 0 (Qao (QeV E p B (rs.take (k+1)))) (.slice aV (QmC E p B gs r).length aW) a5 WE:=by
    rw[aj,bg.out]
    refine⟨World.cell?_setCell_same _ _ _ (by rw[r7]),by simpa using f7,?_,ad.out.2.1.set ao⟩
    rw[QaE]
    exact QdT ad.out.1 ao
   have bo:Keep2 R mp W WE:=by
    rw[aj]
    exact(HO.out.2.2.low ad.out.2.2.2).set 0 _
   rw[<-aj]
   clear aj
   go_wp2
   go_roundw
   case rel=>exact⟨k+1,_,a5,by omega,by go_num,bt,ad.out.2.2.1,bo⟩
   case measure=>simp[intOf];omega
  ·obtain rfl:M=k:=by omega
   rw[<-aS.out,List.take_length] at hO
   go_upto_region 69 with fail
   rename_i K2 ae
   have aA:=Hk ae
   clear ae
   go_wp2
   refine aA.out _ _ ?_
   refine QjO O gc cc q R 1 [c] [Qao (QeV E p B rs)] wr (fun e w'=>Qbf e w' w.heap.size (Qbl 8 [Qao (QeV E p B rs)]) [(c,Qao (QeV E p B rs))]/\Below w.heap.size w w') ?_ ?_ ?_ ?_ ?_ ?_ ?_ ?_ ?_ ?_ ?_ ?_
   ·rfl
   ·rfl
   ·decide
   ·decide
   ·exact k1'
   ·exact q0'
   ·exact(HL.out.keep F).2.2.2.2.2.2.1
   ·exact(HL.out.keep F).2.2.2.2.2.2.2
   ·exact(Qeg hO)
   ·exact bq.out
   ·exact a6.out
   ·exact(Qbf.fin al)
theorem QiW (B z tk tcap:Nat) (vc vr:Value) (cs:List Cl) (rs:List (List Vl)) (j:Jb) (w:World) (nm:ByteArray) (F M cc at_:Nat) (A:j.code=2) (o:j.cols=.slice (some ⟨F,M,none⟩) 1 cc) (ak:w.cell? ⟨F,M,none⟩=some (.string nm)) (ar:F<w.heap.size) (aj:Qak cs nm.data.toList=some at_) (ag:∀r∈rs,Qau (QaJ cs r j.left).2.1/\Qau (QaJ cs r j.right).2.1) (aY:0<tk) (T:B<w.heap.size) (t0:w.cell? ⟨B,z,none⟩=some vc) (t1:w.cell? ⟨B,z+1,none⟩=some vr)
 (hc:Qav w vc cs) (hr:QaC w vr rs) (h1:1<=cs.length) (h6:cs.length<=100) (hl:∀r∈rs,r.length=cs.length) (aq:rs.length<=100) (D:Qb3 cs j.left) (ao:Qb3 cs j.right):
 Calls Tryz.prog 40 #[.agg j.cells,.slice (some ⟨B,z,none⟩) tk tcap] w fun e w'=>(((∀r∈rs,Qau (QdA cs j r))/\∃v1 us1,e=.returned (.tuple #[v1,.slice none 0 0,.nilIface])/\w'.ownsRow w.heap.size 57 1 v1 rs.length us1/\Qac w' w.heap.size us1 (rs.map (Qdk cs j at_)))\/((∃r∈rs,¬Qau (QdA cs j r))/\e=.returned (.tuple #[.slice none 0 0,.slice none 0 0,Qbp 2])))/\Below w.heap.size w w':=by
 have a7:=mkF
 have ap:=Hk (fun W (N:Below w.heap.size w W)=>QgQ vr rs cs.length W (hr.below N) hl h1 h6 aq)
 have ai:=Hk (fun v us W (N:Below w.heap.size w W) hsz V hH hp=>QgS v vc cs rs us j nm F M cc at_ (w.heap.size+1) W V hH hp (fun W' hW'=>hc.below (N.trans (hW'.mono (by omega)))) o (fun W' hW'=>((N.trans (hW'.mono (by omega))).cell (p:=⟨F,M,none⟩) ar).trans ak) (Nat.lt_of_lt_of_le ar N.size) aj h1 h6 hl aq D ao ag hsz)
 have htk':(0:Int)<(tk:Int):=by omega
 clear hl D ao ag aj ak
 obtain⟨va,al,rfl,-⟩:=hc
 obtain⟨ra,aG,rfl,-⟩:=hr
 have af:Qaz (w.alloc (.cells j.cells 28)) w.heap.size j:=fun k v hk=>by rw[World.cell?_alloc_at _ _ _ _ rfl];exact hk
 have E:=Hk af
 clear af
 unfold Jb.cells at E⊢
 rw[A,o] at E⊢
 have J:=Hk (Ai A o)
 clear A o
 all_goals
  go_enter Tryz.func40,Tryz.ntmps40
  go_wp2_with fail
  go_cut [7,8] (fun p v wx=>∃(ab:Nat) (us:List Value),p=.pointer (some ⟨ab,0,none⟩)/\wx.cell? ⟨ab,0,none⟩=some (.slice va cs.length al)/\ab<wx.heap.size/\wx.ownsRow (w.heap.size+1) 57 1 v rs.length us/\Qac wx (w.heap.size+1) us rs/\us.Pairwise Qbt/\Qaz wx w.heap.size j/\Below w.heap.size w wx)
  case first=>
   go_region_held3 (fun w'=>w'.cell? ⟨B,z,none⟩=some (.slice va cs.length al)/\w'.cell? ⟨B,z+1,none⟩=some (.slice ra rs.length aG))
    (first|(go_keep;done)|exact⟨(World.cell?_setCell_other _ _ _ _ (by intro e;simp at e;try omega)).trans k0,(World.cell?_setCell_other _ _ _ _ (by intro e;simp at e;try omega)).trans k1⟩)
    (first|(go_at_call 63;refine(ap.out _ (by first|exact(Qab _ _).drew|exact(Qad (Qab _ _) _).drew)).mono ?_;rintro e Z ⟨v1,us,rfl,D,am,U,q⟩;have y:=Qaa (show Below w.heap.size w _ from(by first|exact(Qab _ _).drew|exact(Qad (Qab _ _) _).drew)) q;have k0:=cK y T t0;have k1:=cK y T t1;have aX:B<Z.heap.size:=Nat.lt_of_lt_of_le T y.size;(try(have kb:=(q.cell (p:=⟨w.heap.size+1,0,none⟩) (by simp)).trans (show _=some (Value.slice none 0 0) by simp);have kf:=(q.frozen (p:=⟨w.heap.size+1,0,none⟩) (by simp)).trans (show _=false by simp);have kz:w.heap.size+1<Z.heap.size:=by(have:=q.size;simp at this;omega)))))
   all_goals go_wp2_with fail
   all_goals go_meet
   ·have O:Qaz Z w.heap.size j:=fun k v hk=>(q.cell (p:=⟨w.heap.size,k,none⟩) (by simp)).trans (by simpa using E.out k v hk)
    exact⟨Z.heap.size,us,rfl,by simp,by simp,(Qam (by simp) D).alloc _,(am.mono (by simp)).below (Qab _ _),U,O.below (Qab _ _) (by have:=q.size;simp at this;omega),Qad y _⟩
   ·have O:Qaz Z w.heap.size j:=fun k v hk=>(q.cell (p:=⟨w.heap.size,k,none⟩) (by simp;omega)).trans (by simpa using E.out k v hk)
    exact⟨w.heap.size+1,us,rfl,World.cell?_setCell_same _ _ _ kb,by simpa using kz,Qam (by simp) (ownsRow_setCell_below D (by simp) _),(Qac.set am (by simp)).mono (by simp),U,fun k v hk=>(World.cell?_setCell_other _ _ _ _ (by intro e;simp at e)).trans (O k v hk),y.setCell (by show w.heap.size<=w.heap.size+1;omega) _⟩
  case rest=>
   obtain⟨ab,us,rfl,a4,aV,V,hH,au,hJ,I⟩:=hcut
   have a5:=I.size
   have K:=ai.out u8 us wc I (by have:=hJ.lt;omega) V hH au
   have hJ':∀k v,(#[.int .i64 j.at_,.int .i64 2,j.outs,j.ins,.slice (some ⟨F,M,none⟩) 1 cc,.string j.op,.string j.left.1,.int .i64 j.left.2.1,.int .i64 j.left.2.2.1,.string j.left.2.2.2,.string j.right.1,.int .i64 j.right.2.1,.int .i64 j.right.2.2.1,.string j.right.2.2.2,.int .i64 j.retry]:Array Value)[k]? =some v->wc.cell? ⟨w.heap.size,k,none⟩=some v:=by
    have h:=hJ
    unfold Qaz Jb.cells at h
    rw[J.out.1,J.out.2] at h
    exact h
   unfold Jb.cells at K
   rw[J.out.1,J.out.2] at K
   have aL:=Hk K
   have j0:wc.cell? ⟨w.heap.size,0,none⟩=some (.int .i64 j.at_):=hJ' 0 _ rfl
   have j1:wc.cell? ⟨w.heap.size,1,none⟩=some (.int .i64 2):=hJ' 1 _ rfl
   have j2:wc.cell? ⟨w.heap.size,2,none⟩=some j.outs:=hJ' 2 _ rfl
   have j3:wc.cell? ⟨w.heap.size,3,none⟩=some j.ins:=hJ' 3 _ rfl
   have j4:wc.cell? ⟨w.heap.size,4,none⟩=some (.slice (some ⟨F,M,none⟩) 1 cc):=hJ' 4 _ rfl
   have j5:wc.cell? ⟨w.heap.size,5,none⟩=some (.string j.op):=hJ' 5 _ rfl
   have j6:wc.cell? ⟨w.heap.size,6,none⟩=some (.string j.left.1):=hJ' 6 _ rfl
   have j7:wc.cell? ⟨w.heap.size,7,none⟩=some (.int .i64 j.left.2.1):=hJ' 7 _ rfl
   have j8:wc.cell? ⟨w.heap.size,8,none⟩=some (.int .i64 j.left.2.2.1):=hJ' 8 _ rfl
   have j9:wc.cell? ⟨w.heap.size,9,none⟩=some (.string j.left.2.2.2):=hJ' 9 _ rfl
   have a8:wc.cell? ⟨w.heap.size,10,none⟩=some (.string j.right.1):=hJ' 10 _ rfl
   have aW:wc.cell? ⟨w.heap.size,11,none⟩=some (.int .i64 j.right.2.1):=hJ' 11 _ rfl
   have a9:wc.cell? ⟨w.heap.size,12,none⟩=some (.int .i64 j.right.2.2.1):=hJ' 12 _ rfl
   have a6:wc.cell? ⟨w.heap.size,13,none⟩=some (.string j.right.2.2.2):=hJ' 13 _ rfl
   have aZ:wc.cell? ⟨w.heap.size,14,none⟩=some (.int .i64 j.retry):=hJ' 14 _ rfl
   have ba:=hJ.lt
   have HB:=Hk I
   obtain⟨xa,xc,rfl⟩:=Qae V
   clear I V hH hJ hJ' au K ai ap E t0 t1
   go_wp2_with (go_at_call 68;refine aL.out.mono ?_;rintro e w5 ⟨⟨aJ,rfl,o1,o2⟩|⟨aw,rfl⟩,ah⟩)
   ·go_ret3
    exact⟨Or.inl ⟨aJ,_,us,rfl,Qam (by omega) o1,o2.mono (by omega)⟩,HB.out.trans (ah.mono (by omega))⟩
   ·go_ret3
    exact⟨Or.inr ⟨aw,rfl⟩,HB.out.trans (ah.mono (by omega))⟩
def QdD (t:Tb) (j:Jb) (nm:List UInt8):Int:=if Qan t.1 t.2=false then 1 else if Qa8 t.1 j nm≠0 then Qa8 t.1 j nm else if(∀r∈t.2,Qau (QdA t.1 j r)) then 0 else 2
theorem Qig {t:Tb} {j:Jb} {w:World} (U:Option Addr) (Z:Nat) (N:ByteArray) (y D cc:Nat) (q:j.code=2) (M:j.outs=.slice U 1 Z) (F:j.cols=.slice (some ⟨y,D,none⟩) 1 cc) (aa:w.cell? ⟨y,D,none⟩=some (.string N)) (K:y<w.heap.size) (T:inS QaF j.op.data.toList=true) (hx:j.left.2.2.2.size<=maxLen) (V:j.right.2.2.2.size<=maxLen) (hr:Qan t.1 t.2=true) (he:Qa8 t.1 j N.data.toList=0):
 ∀W B g h us,Below w.heap.size w W->W.ownsRow B 33 1 (.slice (some ⟨g,0,none⟩) [t].length h) [t].length us->QaA W us ([t].map (·.1))->Calls Tryz.prog 10 #[.agg j.cells,.slice (some ⟨g,0,none⟩) [t].length h] W fun e w'=>∃v us,e=.returned (.tuple #[v,.nilIface])/\w'.ownsRow W.heap.size 33 1 v 1 us/\Qbi w' W.heap.size us t.1/\Below W.heap.size W w':=by
 obtain⟨ac,ai,aj,ak⟩:=Qar hr
 have ab:QaP j.code=(((1:Nat):Int),((1:Nat):Int)):=by rw[q];rfl
 intro W B g h us O ho hh
 obtain⟨b,o,c,J,z,A,I⟩:=Qcy ho hh ac
 refine Qde _ U h Z j 1 1 t.1 W M ab (by decide) (by decide) (fun W' hW'=>?_) (fun W' hW'=>Qa4 g 0 1 h b o t.1.length c t.1 j W' (Or.inr (Or.inr (Or.inl q))) (by decide) (Nat.lt_of_lt_of_le z hW'.size) (cK hW' z J) rfl (by omega) (Nat.lt_of_lt_of_le A hW'.size) (I.below hW' A))
 have E:y<W.heap.size:=Nat.lt_of_lt_of_le K O.size
 have:=Qev g 0 1 h b o t.1.length c y D cc t.1 N j W' q (by decide) (Nat.lt_of_lt_of_le z hW'.size) (cK hW' z J) F (Nat.lt_of_lt_of_le E hW'.size) ((hW'.cell (p:=⟨y,D,none⟩) E).trans (cK O K aa)) T rfl (by omega) (Nat.lt_of_lt_of_le A hW'.size) (I.below hW' A) hx V
 rw[he] at this
 exact this
theorem Qih {q h tcap:Nat} {t:Tb} {j:Jb} {w:World} (E:ByteArray) (z A V at_:Nat) (B:j.code=2) (D:j.cols=.slice (some ⟨z,A,none⟩) 1 V) (O:w.cell? ⟨z,A,none⟩=some (.string E)) (J:z<w.heap.size) (M:Qak t.1 E.data.toList=some at_) (ht:Qa0 w q h [t]) (y:q<w.heap.size) (K:Qan t.1 t.2=true) (he:Qa8 t.1 j E.data.toList=0):
 ∀W,Below w.heap.size w W->Calls Tryz.prog 40 #[.agg j.cells,.slice (some ⟨q,h,none⟩) [t].length tcap] W fun e w'=>(((∀r∈t.2,Qau (QdA t.1 j r))/\∃v1 us1,e=.returned (.tuple #[v1,.slice none 0 0,.nilIface])/\w'.ownsRow W.heap.size 57 1 v1 t.2.length us1/\Qac w' W.heap.size us1 (t.2.map (Qdk t.1 j at_)))\/((∃r∈t.2,¬Qau (QdA t.1 j r))/\e=.returned (.tuple #[.slice none 0 0,.slice none 0 0,Qbp 2])))/\Below W.heap.size W w':=by
 obtain⟨T,ae,af,U⟩:=Qar K
 obtain⟨i,hi,ad,I,F⟩:=QfT he
 intro W o
 obtain⟨vc,Z,c0,c1,hc,N⟩:=ht 0 (by simp)
 exact QiW q h 1 tcap vc Z t.1 t.2 j W E z A V at_ B D (cK o J O) (Nat.lt_of_lt_of_le J o.size) M (fun r hr'=>⟨QfS K I r hr',QfS K F r hr'⟩) (by decide) (Nat.lt_of_lt_of_le y o.size) ((o.cell (p:=⟨q,h,none⟩) y).trans (by simpa using c0)) ((o.cell (p:=⟨q,h+1,none⟩) y).trans (by simpa using c1)) (hc.below o) (N.below o) T (by omega) U (by omega) (Qfp I) (Qfp F)
theorem QiX (K D tcap:Nat) (t:Tb) (j:Jb) (oa:Option Addr) (oc:Nat) (q:ByteArray) (z E V:Nat) (w:World) (h:j.code=2) (O:j.outs=.slice oa 1 oc) (y:j.cols=.slice (some ⟨z,E,none⟩) 1 V) (N:w.cell? ⟨z,E,none⟩=some (.string q)) (J:z<w.heap.size) (aa:inS QaF j.op.data.toList=true) (hx:j.left.2.2.2.size<=maxLen) (A:j.right.2.2.2.size<=maxLen) (Z:Qa0 w K D [t]) (I:K<w.heap.size) (ae:QdD t j q.data.toList≠0):
 Calls Tryz.prog 14 #[.agg j.cells,.slice (some ⟨K,D,none⟩) 1 tcap] w fun e w'=>e=.returned (.tuple #[.slice none 0 0,Qbp (QdD t j q.data.toList)])/\Below w.heap.size w w':=by
 have al:QaP j.code=(((1:Nat):Int),((1:Nat):Int)):=by rw[h];rfl
 cases hr:Qan t.1 t.2
 ·have:QdD t j q.data.toList=1:=by unfold QdD;rw[if_pos hr]
  rw[this]
  exact QhT K D tcap [t] j w Z I (by simp) ⟨t,by simp,hr⟩
 ·obtain⟨am,az,aA,aB⟩:=Qar hr
  have F:∀x∈[t],Qan x.1 x.2=true:=by intro x A;simp at A;rw[A];exact hr
  by_cases he:Qa8 t.1 j q.data.toList=0
  ·have U:QdD t j q.data.toList=if(∀r∈t.2,Qau (QdA t.1 j r)) then 0 else 2:=by unfold QdD;rw[if_neg (by simp[hr]),if_neg (by simp[he])]
   by_cases hall:∀r∈t.2,Qau (QdA t.1 j r)
   ·rw[U,if_pos hall] at ae;exact absurd rfl ae
   ·rw[U,if_neg hall]
    obtain⟨i,hi,ax,ay,aw⟩:=QfT he
    refine Qhk K D tcap [t] j w Z I (by simp) (by simp) F t.1 1 2 (by decide) (Qig oa oc q z E V h O y N J aa hx A hr he) (fun W T=>?_)
    refine(Qih (tcap:=tcap) q z E V i h y N J hi Z I hr he W T).mono ?_
    rintro e w' ⟨⟨h1,-⟩|⟨-,h2⟩,hb⟩
    ·exact absurd h1 hall
    ·exact⟨h2,hb⟩
  ·have U:QdD t j q.data.toList=Qa8 t.1 j q.data.toList:=by unfold QdD;rw[if_neg (by simp[hr]),if_pos he]
   rw[U]
   refine QhU K D tcap [t] j w Z I (by simp) (by simp) F _ he ?_
   intro W B g ad us T ho hh
   obtain⟨b,o,c,ak,ab,ac,ai⟩:=Qcy ho hh am
   have M:z<W.heap.size:=Nat.lt_of_lt_of_le J T.size
   exact Qeb _ oa ad oc j 1 1 _ W O al (by decide) he (fun W' hW'=>Qev g 0 1 ad b o t.1.length c z E V t.1 q j W' h (by decide) (Nat.lt_of_lt_of_le ab hW'.size) (cK hW' ab ak) y (Nat.lt_of_lt_of_le M hW'.size) ((hW'.cell (p:=⟨z,E,none⟩) M).trans (cK T J N)) aa rfl (by omega) (Nat.lt_of_lt_of_le ac hW'.size) (ai.below hW' ac) hx A)
theorem QlV {t:Tb} {j:Jb} {q:List UInt8} (h:QdD t j q=0):Qan t.1 t.2=true/\Qa8 t.1 j q=0/\∀r∈t.2,Qau (QdA t.1 j r):=by
 unfold QdD at h
 split at h
 ·cases h
 ·rename_i y
  split at h
  ·rename_i o;exact absurd h o
  ·rename_i o
   split at h
   ·rename_i z;exact⟨by simpa using y,by simpa using o,z⟩
   ·cases h
theorem Qj8 (E y tcap:Nat) (t:Tb) (j:Jb) (Z:Option Addr) (oc:Nat) (z:ByteArray) (A B O at_:Nat) (w:World) (h:j.code=2) (N:j.outs=.slice Z 1 oc) (q:j.cols=.slice (some ⟨A,B,none⟩) 1 O) (J:w.cell? ⟨A,B,none⟩=some (.string z)) (K:A<w.heap.size) (aa:inS QaF j.op.data.toList=true) (hx:j.left.2.2.2.size<=maxLen) (o:j.right.2.2.2.size<=maxLen) (T:Qa0 w E y [t]) (I:E<w.heap.size) (U:Qak t.1 z.data.toList=some at_) (ae:QdD t j z.data.toList=0):
 Calls Tryz.prog 14 #[.agg j.cells,.slice (some ⟨E,y,none⟩) 1 tcap] w fun e D=>∃g c,e=.returned (.tuple #[.slice (some ⟨g,0,none⟩) 1 c,.nilIface])/\w.heap.size<=g/\g<D.heap.size/\QbR D w.heap.size g [(t.1,t.2.map (Qdk t.1 j at_))]/\Below w.heap.size w D:=by
 obtain⟨F,he,M⟩:=QlV ae
 obtain⟨ar,ao,ad,aq⟩:=Qar F
 obtain⟨vc,vr,c0,c1,hc,ap⟩:=T 0 (by simp)
 refine Qex E y tcap [t] j w T I (by simp) (by simp) (by intro x o;simp at o;rw[o];exact F) t.1 (t.2.map (Qdk t.1 j at_)) [] (by simpa using ad) (QbI hc) (Qig Z oc z A B O h N q J K aa hx o F he) (fun W hW=>?_)
 refine(Qih (tcap:=tcap) z A B O at_ h q J K U T I F he W hW).mono ?_
 rintro e D ⟨⟨-,v1,ab,h1,h2,h3⟩|⟨⟨r,V,hn⟩,-⟩,hb⟩
 ·exact⟨v1,.slice none 0 0,ab,[],h1,by simpa using h2,h3,World.ownsRow_nil _ _ _ _,Qac.nil _ _,hb⟩
 ·exact absurd (M r V) hn
end Go.Proofs.YtofidnijfnhpaaaGreatDoor
