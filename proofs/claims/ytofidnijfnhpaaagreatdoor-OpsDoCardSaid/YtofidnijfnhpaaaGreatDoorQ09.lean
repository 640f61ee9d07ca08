import Derived.Test.YtofidnijfnhpaaaGreatDoorQ01
import Derived.Test.YtofidnijfnhpaaaGreatDoorQ08
set_option linter.unusedSimpArgs false
set_option linter.unusedVariables false
set_option linter.unusedSectionVars false
set_option maxRecDepth 1000000
set_option maxHeartbeats 16000000
namespace Go.Proofs.YtofidnijfnhpaaaGreatDoor
open Go.RowKit
def Qf7 (cs:List Cl) (seen:List ByteArray):List ByteArray->Int
 |[]=>0
 |s::r=>if Qak cs s.data.toList=none then 7 else if inS seen s.data.toList=true then 9 else Qf7 cs (seen++[s]) r
def QaB (cs:List Cl) (ss:List ByteArray):Int:=if ss.length=0\/6<ss.length then 1 else Qf7 cs [] ss
theorem Qgj (cs:List Cl) (ss:List ByteArray) (k:Nat) (h:k<ss.length):Qf7 cs (ss.take k) (ss.drop k)=if Qak cs ss[k].data.toList=none then 7 else if inS (ss.take k) ss[k].data.toList=true then 9 else Qf7 cs (ss.take (k+1)) (ss.drop (k+1)):=by
 rw[List.drop_eq_getElem_cons h,Qf7,List.take_succ_eq_append_getElem h]
theorem QbO.take {w:World} {b o:Nat} {ss:List ByteArray} (h:QbO w b o ss) (k:Nat):QbO w b o (ss.take k):=fun j hj=>by
 rw[List.getElem_take]
 exact h j (by rw[List.length_take] at hj;omega)
theorem QfE (y:Option Addr) (n j:Nat) (q:Value) (w:World) (h:n=0\/6<n) (z:n<=maxLen):
 Calls Tryz.prog 47 #[.slice y n j,q] w fun e w'=>e=.returned (Qbp 1)/\Below w.heap.size w w':=by
 rw[Qa1 (by decide)]
 unfold maxLen at z
 by_cases o:n=0
 ·subst o
  clear h
  go_enter Tryz.func47,Tryz.ntmps47
  go_wp2
  go_ret
  exact⟨rfl,Below.refl _ _⟩
 ·have A:(6:Int)<(n:Int):=by omega
  have h0':((n:Int)==0)=false:=by simp;omega
  clear h
  go_enter Tryz.func47,Tryz.ntmps47
  go_wp2
  go_ret
  exact⟨rfl,Below.refl _ _⟩
theorem Qgk (M no O b o n c m:Nat) (ss:List ByteArray) (cs:List Cl) (w:World) (hm:ss.length=m) (ap:0<m) (aq:m<=6) (ak:m<=O) (U:M<w.heap.size) (hs:QbO w M no ss) (V:cs.length=n) (ac:n<=100) (hb:b<w.heap.size) (Z:Qas w b o cs):
 Calls Tryz.prog 47 #[.slice (some ⟨M,no,none⟩) m O,.slice (some ⟨b,o,none⟩) n c] w fun e w'=>e=.returned (Qbp (Qf7 cs [] ss))/\Below w.heap.size w w':=by
 have HP:=Hk (fun W (h1:Below w.heap.size w W) nm=>QaL b o n c cs nm W V ac (by have:=h1.size;omega) (Z.below h1 hb))
 have HS:=Hk hs
 have HM:=Hk hm
 have h0':((m:Int)==0)=false:=by simp;omega
 have h6':¬((6:Int)<(m:Int)):=by omega
 have HH:=Hk (Ai V Z)
 clear V Z hs hm
 go_enter Tryz.func47,Tryz.ntmps47
 go_wp2
 go_loopw [18] (fun i wr=>∃k:Nat,k<=m/\i=.int .i64 k/\Qf7 cs [] ss=Qf7 cs (ss.take k) (ss.drop k)/\Below w.heap.size w wr) (fun i _=>m-(intOf i).toNat)
 case atStart=>exact⟨0,Nat.zero_le _,rfl,by simp,Below.refl _ _⟩
 case round=>
  obtain⟨k,hk,rfl,E,j⟩:=hrel
  have B:=Hk (Ai E j)
  by_cases hlt:k<m
  ·have T:k<ss.length:=by have:=HM.out;omega
   have d1:=(j.cell (p:=⟨M,no+k,none⟩) U).trans (HS.out k T)
   have h:=Qgj cs ss k T
   have F:=Hk (fun nm=>HP.out wr j nm)
   have K:=Hk (fun W (I:Below wr.heap.size wr W) x=>Qb5 M no k O (ss.take k) x W (by rw[List.length_take];omega) (by omega) ((HS.out.below j U).take k|>.below I (by have:=j.size;omega)))
   have ao:(k:Int)<=(O:Int):=by omega
   clear E j
   generalize N:ss[k]=sk at*
   cases gp:Qak cs sk.data.toList with
   |none=>
    have A:=F.out sk
    rw[show Qaq cs sk.data.toList= -1 by rw[Qaq,gp]] at A
    rw[gp,if_pos rfl] at h
    have D:=Hk A
    have z:=Hk (B.out.1.trans h)
    clear A gp h N F K
    go_wp2_with (go_at_call 54;refine D.out.mono ?_;rintro e w1 ⟨rfl,y⟩)
    go_ret
    refine⟨?_,Qaa B.out.2 y⟩
    rw[z.out,Qa1 (by decide)];rfl
   |some q=>
    have A:=F.out sk
    rw[show Qaq cs sk.data.toList=(q:Int) by rw[Qaq,gp]] at A
    rw[gp,if_neg (by simp)] at h
    have D:=Hk A
    clear A gp F
    cases gi:inS (ss.take k) sk.data.toList
    ·rw[gi,if_neg (by simp)] at h
     have z:=Hk (B.out.1.trans h)
     have J:=Hk (fun W (I:Below wr.heap.size wr W)=>by have:=K.out W I sk;rw[gi] at this;exact this)
     clear h N gi K
     go_wp2_with (first|(go_at_call 54;refine D.out.mono ?_;rintro e w1 ⟨rfl,y⟩)|(go_at_call 76;refine(J.out _ y).mono ?_;rintro e w2 ⟨rfl,rfl⟩))
     go_roundw
     case rel=>exact⟨k+1,by omega,by go_num,z.out,Qaa B.out.2 y⟩
     case measure=>simp[intOf];omega
    ·rw[gi,if_pos rfl] at h
     have z:=Hk (B.out.1.trans h)
     have J:=Hk (fun W (I:Below wr.heap.size wr W)=>by have:=K.out W I sk;rw[gi] at this;exact this)
     clear h N gi K
     go_wp2_with (first|(go_at_call 54;refine D.out.mono ?_;rintro e w1 ⟨rfl,y⟩)|(go_at_call 76;refine(J.out _ y).mono ?_;rintro e w2 ⟨rfl,rfl⟩))
     go_ret
     refine⟨?_,Qaa B.out.2 y⟩
     rw[z.out,Qa1 (by decide)];rfl
  ·have aa:k=m:=by omega
   subst aa
   have HE:=Hk (show Qf7 cs [] ss=0 by rw[E,List.drop_of_length_le (by have:=HM.out;omega)];rfl)
   clear E j
   go_wp2
   go_ret
   rw[HE.out,Qdp]
   exact⟨rfl,B.out.2⟩
theorem Tryz.infoInt:(Tryz.prog.info? 3).map (fun i=>(i.zero,i.size,i.bytes))=some (some (.int .i64 0),1,8):=by kernel_rfl
def Qa5 (ks:List Nat):List Value:=ks.map fun(k:Nat)=>.int .i64 (k:Int)
def QbJ (w:World) (b o:Nat) (ks:List Nat):Prop:=∀(j:Nat) (h:j<ks.length),w.cell? ⟨b,o+j,none⟩=some (.int .i64 (ks[j]:Int))
theorem QbJ.below {w z:World} {B b o:Nat} {y:List Nat} (h:QbJ w b o y) (A:Below B w z) (q:b<B):QbJ z b o y:=fun j hj=>(A.cell (p:=⟨b,o+j,none⟩) q).trans (h j hj)
theorem Qey {w:World} {B:Nat} {v:Value} {o:List Nat} (h:w.ownsRow B 3 1 v o.length (Qa5 o)) (q:0<o.length):∃g c,v=.slice (some ⟨g,0,none⟩) o.length c/\B<=g/\g<w.heap.size/\QbJ w g 0 o:=by
 obtain⟨g,c,rfl,z,y,A⟩:=QaY h q
 exact⟨g,c,rfl,z,y,fun j hj=>A j _ (by rw[Qa5,List.getElem?_map,List.getElem?_eq_getElem hj];rfl)⟩
theorem QmD (k:IntKind) (n:Int):∀u∈[Value.int k n],u.oneCell'=true:=by intro u h;simp at h;subst h;rfl
theorem QmR (a b:Int) (s:ByteArray):∀u∈[Value.int .i64 a,.int .i64 b,.string s],u.oneCell'=true:=by intro u h;simp at h;rcases h with rfl|rfl|rfl<;>rfl
theorem QmE (b:Int) (s:ByteArray):∀u∈[Value.string s,.int .i64 b],u.oneCell'=true:=by intro u h;simp at h;rcases h with rfl|rfl<;>rfl
theorem Ql8 (w:World) (a b c:Value) (t:TypeId) (H:Nat) (o:w.heap.size=H):∀j u,[a,b,c][j]? =some u->(w.alloc (.cells #[a,b,c] t)).cell? ((⟨H,0,none⟩:Addr).add j)=some u:=by
 intro j u h
 subst o
 match j,h with
 |0,h=>simp at h;subst h;simp[Addr.add]
 |1,h=>simp at h;subst h;simp[Addr.add]
 |2,h=>simp at h;subst h;simp[Addr.add]
theorem Qjg (w:World) (a b:Value) (t:TypeId) (H:Nat) (o:w.heap.size=H):∀j u,[a,b][j]? =some u->(w.alloc (.cells #[a,b] t)).cell? ((⟨H,0,none⟩:Addr).add j)=some u:=by
 intro j u h
 subst o
 match j,h with
 |0,h=>simp at h;subst h;simp[Addr.add]
 |1,h=>simp at h;subst h;simp[Addr.add]
theorem Qdq (K no nc b o n c m:Nat) (ss:List ByteArray) (z:List Nat) (cs:List Cl) (w:World) (hm:ss.length=m) (aB:m<=100) (ae:K<w.heap.size) (hs:QbO w K no ss) (hn:cs.length=n) (ab:n<=100) (hb:b<w.heap.size) (hc:Qas w b o cs) (N:z.length=m) (T:∀j (h:j<ss.length) (h':j<z.length),Qak cs ss[j].data.toList=some z[j]):
 Calls Tryz.prog 52 #[.slice (some ⟨b,o,none⟩) n c,.slice (some ⟨K,no,none⟩) m nc] w fun e w'=>∃v,e=.returned v/\w'.ownsRow w.heap.size 3 1 v z.length (Qa5 z)/\Below w.heap.size w w':=by
 obtain⟨i0,hi,aj,aa,ag⟩:=info_parts Tryz.infoInt
 have HP:=Hk (fun W (h1:Below w.heap.size w W) nm=>QaL b o n c cs nm W hn ab (by have:=h1.size;omega) (hc.below h1 hb))
 have HS:=Hk hs
 have I:=Hk (Ai hm (Ai N T))
 clear hn hc hs hm N T
 go_enter Tryz.func52,Tryz.ntmps52
 go_wp2
 go_loopw [5,10] (fun l i wr=>∃k:Nat,k<=m/\i=.int .i64 k/\wr.ownsRow w.heap.size 3 1 l k (Qa5 (z.take k))/\Below w.heap.size w wr) (fun _ i _=>m-(intOf i).toNat)
 case atStart=>exact⟨0,Nat.zero_le _,rfl,World.ownsRow_nil _ _ _ _,Below.refl _ _⟩
 case round=>
  obtain⟨k,hk,rfl,y,A⟩:=hrel
  obtain⟨la,lc,rfl⟩:=Qae y
  have J:=Hk (Ai y A)
  have az:=A.size
  by_cases hlt:k<m
  ·have M:k<ss.length:=by have:=I.out.1;omega
   have O:k<z.length:=by have:=I.out.2.1;omega
   have d1:=(A.cell (p:=⟨K,no+k,none⟩) ae).trans (HS.out k M)
   have U:=HP.out wr A ss[k]
   rw[show Qaq cs ss[k].data.toList=((z[k]:Nat):Int) by rw[Qaq,I.out.2.2 k M O]] at U
   have Z:=Hk U
   have HT:=Hk (show Qa5 (z.take k)++[.int .i64 ((z[k]:Nat):Int)]=Qa5 (z.take (k+1)) by rw[List.take_succ_eq_append_getElem O,Qa5,Qa5,List.map_append];rfl)
   clear y A U
   generalize ss[k]=sk at*
   generalize z[k]=kk at*
   go_wp2_with (first|(go_at_call 54;refine Z.out.mono ?_;rintro e w1 ⟨rfl,E⟩)|(at_builtin;refine wpList_append_own _ rfl _ _ 76 rfl w.heap.size 3 i0 (.int .i64 0) 1 8 Tryz.underlying76 hi aj aa ag rfl (by decide) _ _ _ rfl ((Qaf J.out.1 E).alloc _) ⟨w1.heap.size,0,none⟩ 1 1 [.int .i64 (kk:Int)] rfl rfl (QbG _ _ _ _ rfl) (QmD _ _) ?c3 ?c4 ?c5 ?_))
   case c3=>unfold maxLen;omega
   case c4=>omega
   case c5=>have:=E.size;simp;omega
   intro v' w5 B D _
   have aA:=E.size
   have F:Below w.heap.size w w5:=((Qaa J.out.2 E).alloc (by omega) _).grown D (by simp;omega) (fun q hq=>(J.out.1.lt q hq).1)
   rw[HT.out] at B
   have HF:=Hk (Ai B F)
   clear B D F
   go_wp2
   go_roundw
   case rel=>exact⟨k+1,by omega,by go_num,HF.out.1,HF.out.2⟩
   case measure=>simp[intOf];omega
  ·have V:k=m:=by omega
   subst V
   rw[List.take_of_length_le (by have:=I.out.2.1;omega)] at y
   have HO:=Hk y
   clear y A
   go_wp2
   go_ret
   refine⟨_,rfl,?_,J.out.2⟩
   rw[I.out.2.1]
   exact HO.out
def Qa2 (ks:List Nat) (r:List Vl):List Vl:=ks.map fun k=>r[k]?.getD (0,0,⟨#[]⟩)
def QaT (ks:List Nat) (cs:List Cl):List Cl:=ks.map fun k=>cs[k]?.getD (⟨#[]⟩,0)
theorem Qip (D J rc b o c:Nat) (r:List Vl) (h:List Nat) (w:World) (K:QaK w D J r) (E:D<w.heap.size) (O:QbJ w b o h) (hb:b<w.heap.size) (z:∀k∈h,k<r.length) (am:h.length<=100) (af:r.length<=100):
 Calls Tryz.prog 95 #[.slice (some ⟨D,J,none⟩) r.length rc,.slice (some ⟨b,o,none⟩) h.length c] w fun e w'=>∃v,e=.returned v/\w'.ownsRow w.heap.size 24 3 v h.length (Qai (Qa2 h r))/\Below w.heap.size w w':=by
 obtain⟨i0,hi,ae,V,ab⟩:=info_parts Tryz.infoVal
 have HS:=Hk (Ai K (Ai O z))
 clear K O z
 go_enter Tryz.func95,Tryz.ntmps95
 go_wp2
 go_loopw [5,10] (fun l i wr=>∃k:Nat,k<=h.length/\i=.int .i64 k/\wr.ownsRow w.heap.size 24 3 l k (Qai (Qa2 (h.take k) r))/\Below w.heap.size w wr) (fun _ i _=>h.length-(intOf i).toNat)
 case atStart=>exact⟨0,Nat.zero_le _,rfl,World.ownsRow_nil _ _ _ _,Below.refl _ _⟩
 case round=>
  obtain⟨k,O,rfl,j,y⟩:=hrel
  obtain⟨la,lc,rfl⟩:=Qae j
  have M:=Hk (Ai j y)
  have aq:=y.size
  by_cases z:k<h.length
  ·obtain⟨K,N,hl⟩:=HS.out
   have I:=hl _ (List.getElem_mem z)
   have d1:=(y.cell (p:=⟨b,o+k,none⟩) hb).trans (N k z)
   obtain⟨U,Z,e2⟩:=K _ I
   have d2:=cK y E U
   have d3:=cK y E Z
   have d4:=cK y E e2
   have HT:=Hk (show Qai (Qa2 (h.take k) r)++[.int .i64 r[h[k]].1,.int .i64 r[h[k]].2.1,.string r[h[k]].2.2]=Qai (Qa2 (h.take (k+1)) r) by
    rw[List.take_succ_eq_append_getElem z,Qa2,Qa2,List.map_append,QcM]
    simp[Qai,List.getElem?_eq_getElem I])
   have hq':((h[k]:Nat):Int)<(r.length:Int):=by omega
   generalize r[h[k]]=x at*
   generalize h[k]=kk at*
   clear j y K N hl U Z e2 I
   go_wp2_with (at_builtin;refine wpList_append_own _ rfl _ _ 57 rfl w.heap.size 24 i0 (.agg #[.int .i64 0,.int .i64 0,.string ⟨#[]⟩]) 3 32 Tryz.underlying57 hi ae V ab rfl (by decide) _ _ _ rfl (M.out.1.alloc _) ⟨wr.heap.size,0,none⟩ 1 1 [.int .i64 x.1,.int .i64 x.2.1,.string x.2.2] rfl rfl (Ql8 _ _ _ _ _ _ rfl) (QmR _ _ _) ?c3 ?c4 ?c5 ?_)
   case c3=>unfold maxLen;omega
   case c4=>omega
   case c5=>simp;omega
   intro v' w5 A B _
   have F:Below w.heap.size w w5:=(M.out.2.alloc (by omega) _).grown B (by simp;omega) (fun q I=>(M.out.1.lt q I).1)
   rw[HT.out] at A
   have HF:=Hk (Ai A F)
   clear A B F
   go_wp2
   go_roundw
   case rel=>exact⟨k+1,by omega,by go_num,HF.out.1,HF.out.2⟩
   case measure=>simp[intOf];omega
  ·have T:k=h.length:=by omega
   subst T
   rw[List.take_of_length_le (Nat.le_refl _)] at j
   have HO:=Hk j
   clear j y
   go_wp2
   go_ret
   exact⟨_,rfl,HO.out,M.out.2⟩
theorem Qe9 (F K rc b o c:Nat) (r:List Cl) (h:List Nat) (w:World) (I:Qas w F K r) (M:F<w.heap.size) (O:QbJ w b o h) (hb:b<w.heap.size) (z:∀k∈h,k<r.length) (al:h.length<=100) (ae:r.length<=100):
 Calls Tryz.prog 51 #[.slice (some ⟨F,K,none⟩) r.length rc,.slice (some ⟨b,o,none⟩) h.length c] w fun e w'=>∃v,e=.returned v/\w'.ownsRow w.heap.size 56 2 v h.length (Qap (QaT h r))/\Below w.heap.size w w':=by
 obtain⟨i0,hi,ad,V,ab⟩:=info_parts Tryz.infoCol
 have HS:=Hk (Ai I (Ai O z))
 clear I O z
 go_enter Tryz.func51,Tryz.ntmps51
 go_wp2
 go_loopw [5,10] (fun l i wr=>∃k:Nat,k<=h.length/\i=.int .i64 k/\wr.ownsRow w.heap.size 56 2 l k (Qap (QaT (h.take k) r))/\Below w.heap.size w wr) (fun _ i _=>h.length-(intOf i).toNat)
 case atStart=>exact⟨0,Nat.zero_le _,rfl,World.ownsRow_nil _ _ _ _,Below.refl _ _⟩
 case round=>
  obtain⟨k,O,rfl,j,y⟩:=hrel
  obtain⟨la,lc,rfl⟩:=Qae j
  have J:=Hk (Ai j y)
  have ap:=y.size
  by_cases z:k<h.length
  ·obtain⟨I,N,hl⟩:=HS.out
   have E:=hl _ (List.getElem_mem z)
   have d1:=(y.cell (p:=⟨b,o+k,none⟩) hb).trans (N k z)
   obtain⟨U,Z⟩:=I _ E
   have d2:=cK y M U
   have d3:=cK y M Z
   have HT:=Hk (show Qap (QaT (h.take k) r)++[.string r[h[k]].1,.int .i64 r[h[k]].2]=Qap (QaT (h.take (k+1)) r) by
    rw[List.take_succ_eq_append_getElem z,QaT,QaT,List.map_append]
    simp[Qap,List.getElem?_eq_getElem E])
   have hq':((h[k]:Nat):Int)<(r.length:Int):=by omega
   generalize r[h[k]]=x at*
   generalize h[k]=kk at*
   clear j y I N hl U Z E
   go_wp2_with (at_builtin;refine wpList_append_own _ rfl _ _ 33 rfl w.heap.size 56 i0 (.agg #[.string ⟨#[]⟩,.int .i64 0]) 2 24 Tryz.underlying33 hi ad V ab rfl (by decide) _ _ _ rfl (J.out.1.alloc _) ⟨wr.heap.size,0,none⟩ 1 1 [.string x.1,.int .i64 x.2] rfl rfl (Qjg _ _ _ _ _ rfl) (QmE _ _) ?c3 ?c4 ?c5 ?_)
   case c3=>unfold maxLen;omega
   case c4=>omega
   case c5=>simp;omega
   intro v' w5 A B _
   have D:Below w.heap.size w w5:=(J.out.2.alloc (by omega) _).grown B (by simp;omega) (fun q E=>(J.out.1.lt q E).1)
   rw[HT.out] at A
   have HF:=Hk (Ai A D)
   clear A B D
   go_wp2
   go_roundw
   case rel=>exact⟨k+1,by omega,by go_num,HF.out.1,HF.out.2⟩
   case measure=>simp[intOf];omega
  ·have T:k=h.length:=by omega
   subst T
   rw[List.take_of_length_le (Nat.le_refl _)] at j
   have HO:=Hk j
   clear j y
   go_wp2
   go_ret
   exact⟨_,rfl,HO.out,J.out.2⟩
theorem Qku (h:List Nat) (r:List Vl):(Qa2 h r).length=h.length:=by simp[Qa2]
theorem Qjh {o:List Nat} {r:List Vl} (h:∀x∈r,x.2.2.size<=maxLen):∀x∈Qa2 o r,x.2.2.size<=maxLen:=by
 intro x j
 obtain⟨k,-,rfl⟩:=List.mem_map.1 j
 by_cases hk:k<r.length
 ·simp only[List.getElem?_eq_getElem hk,Option.getD_some]
  exact h _ (List.getElem_mem hk)
 ·rw[List.getElem?_eq_none (by omega)]
  exact Nat.zero_le _
theorem Qhf (v:Value) (r:List Vl) (b o c:Nat) (j:List Nat) (w:World) (K:Qbk w v r) (I:QbJ w b o j) (D:b<w.heap.size) (y:∀k∈j,k<r.length) (A:0<j.length) (z:j.length<=100) (q:r.length<=100):
 Calls Tryz.prog 95 #[v,.slice (some ⟨b,o,none⟩) j.length c] w fun e w'=>∃v,e=.returned v/\w'.ownsRow w.heap.size 24 3 v (Qa2 j r).length (Qai (Qa2 j r))/\Below w.heap.size w w':=by
 obtain⟨a,E,rfl,-,h⟩:=K
 rcases h with h|⟨J,M,rfl,F,B⟩
 ·have:=y _ (List.getElem_mem A)
  rw[h] at this
  simp at this
 ·rw[Qku]
  exact Qip J M E b o c r j w B F I D y z q
theorem QfF (v:Value) (rs:List (List Vl)) (b o c:Nat) (h:List Nat) (w:World) (hr:QaC w v rs) (hl:∀r∈rs,(∀k∈h,k<r.length)/\r.length<=100) (aj:0<h.length) (hb:b<w.heap.size) (ac:QbJ w b o h) (h6:h.length<=100) (aK:rs.length<=100):
 Calls Tryz.prog 69 #[v,.slice (some ⟨b,o,none⟩) h.length c] w fun e w'=>∃v' us,e=.returned v'/\w'.ownsRow w.heap.size 57 1 v' rs.length us/\Qac w' w.heap.size us (rs.map (Qa2 h))/\Below w.heap.size w w':=by
 obtain⟨i0,hi,au,am,ar⟩:=info_parts Tryz.infoRow
 have HR:=Hk hr
 have HL:=Hk hl
 have HK:=Hk ac
 clear hl ac
 obtain⟨va,aN,rfl,-⟩:=hr
 go_enter Tryz.func69,Tryz.ntmps69
 go_wp2
 go_loopw [5,10] (fun l i wr=>∃(k:Nat) (us:List Value),k<=rs.length/\i=.int .i64 k/\wr.ownsRow w.heap.size 57 1 l k us/\Qac wr w.heap.size us ((rs.take k).map (Qa2 h))/\Below w.heap.size w wr) (fun _ i _=>rs.length-(intOf i).toNat)
 case atStart=>exact⟨0,[],Nat.zero_le _,rfl,World.ownsRow_nil _ _ _ _,Qac.nil _ _,Below.refl _ _⟩
 case round=>
  obtain⟨k,us,hk,rfl,z,j,A⟩:=hrel
  obtain⟨la,lc,rfl⟩:=Qae z
  have D:=Hk (Ai z j)
  have HX:=Hk A
  have aL:=A.size
  by_cases hlt:k<rs.length
  ·obtain⟨b',o',c',ae,aq,Z⟩:=Qhb HR.out (by omega)
   simp only[Value.slice.injEq,true_and] at ae
   obtain⟨rfl,rfl⟩:=ae
   obtain⟨u,hu,J⟩:=Z k hlt
   have cu:=cK A aq hu
   have ab:=J.below A
   obtain⟨ua,uc,rfl⟩:=Qer J
   have I:=HL.out _ (List.getElem_mem hlt)
   have V:=Qhf _ _ b o c h wr ab (HK.out.below A hb) (by omega) I.1 aj h6 I.2
   have hsz:∀x∈Qa2 h rs[k],x.2.2.size<=maxLen:=Qjh (by obtain⟨_,_,_,hs,_⟩:=J;exact hs)
   have HC:=Hk V
   have HS:=Hk (Ai hsz I)
   clear V Z hu J ab A z j hsz I
   generalize aa:rs[k]=rk at*
   have ah:=Hk aa
   clear aa
   go_wp2_with (first|(go_at_call 95;refine HC.out.mono ?_;rintro e w1 ⟨v1,rfl,O,B⟩;obtain⟨E,K,rfl⟩:=Qae O)|(at_builtin;refine wpList_append_own _ rfl _ _ 34 rfl w.heap.size 57 i0 (.slice none 0 0) 1 24 Tryz.underlying34 hi au am ar rfl (by decide) _ _ _ rfl ((Qaf D.out.1 B).alloc _) ⟨w1.heap.size,0,none⟩ 1 1 [.slice E (Qa2 h rk).length K] rfl rfl (QbG _ _ _ _ rfl) (QbZ _ _ _) ?c3 ?c4 ?c5 ?_))
   case c3=>unfold maxLen;omega
   case c4=>omega
   case c5=>have:=B.size;simp;omega
   intro v' w5 F y _
   have aM:=B.size
   have N:Below w.heap.size w w5:=((Qaa HX.out B).alloc (by omega) _).grown y (by simp;omega) (fun q hq=>(D.out.1.lt q hq).1)
   have T:=((Qaf D.out.1 B).alloc (.cells #[.slice E (Qa2 h rk).length K] 57))
   have U:=((D.out.2.below B).below (Qab w1 (.cells #[.slice E (Qa2 h rk).length K] 57))).grow T y
   have ad:=(O.alloc (.cells #[.slice E (Qa2 h rk).length K] 57)).kept y (Qch (by decide) (O.alloc _) T)
   have M:=U.snoc (Qam (by omega) ad) HS.out.1
   rw[show(rs.take k).map (Qa2 h)++[Qa2 h rk]=(rs.take (k+1)).map (Qa2 h) by rw[List.take_succ_eq_append_getElem hlt,ah.out,List.map_append];rfl] at M
   have HF:=Hk (Ai F (Ai M N))
   clear F y M N U ad T
   go_wp2
   go_roundw
   case rel=>exact⟨k+1,_,by omega,by go_num,HF.out.1,HF.out.2.1,HF.out.2.2⟩
   case measure=>simp[intOf];omega
  ·have ai:k=rs.length:=by omega
   subst ai
   rw[List.take_of_length_le (Nat.le_refl _)] at j
   clear D
   have D:=Hk (Ai z j)
   clear z j A
   go_wp2
   go_ret
   exact⟨_,us,rfl,D.out.1,D.out.2,HX.out⟩
def QaX (w:World) (v:Value) (ss:List ByteArray):Prop:=∃a c,v=.slice a ss.length c/\ss.length<=c/\ss.length<=maxLen/\(ss=[]\/∃b o,a=some ⟨b,o,none⟩/\b<w.heap.size/\QbO w b o ss)
theorem QaX.below {w y:World} {v:Value} {ss:List ByteArray} (h:QaX w v ss) (j:Below w.heap.size w y):QaX y v ss:=by
 obtain⟨a,c,e,D,A,h⟩:=h
 refine⟨a,c,e,D,A,?_⟩
 rcases h with h|⟨b,o,B,q,z⟩
 ·exact Or.inl h
 ·exact Or.inr ⟨b,o,B,Nat.lt_of_lt_of_le q j.size,z.below j q⟩
theorem Qdr (v K:Value) (ss:List ByteArray) (b o n c:Nat) (cs:List Cl) (w:World) (D:QaX w v ss) (J:cs.length=n) (z:n<=100) (B:b<w.heap.size) (I:Qas w b o cs):
 Calls Tryz.prog 47 #[v,.slice (some ⟨b,o,none⟩) n c] w fun e w'=>e=.returned (Qbp (QaB cs ss))/\Below w.heap.size w w':=by
 obtain⟨a,j,rfl,q,y,h⟩:=D
 by_cases hf:ss.length=0\/6<ss.length
 ·rw[show QaB cs ss=1 by unfold QaB;rw[if_pos hf]]
  exact QfE a ss.length j _ w hf y
 ·rw[show QaB cs ss=Qf7 cs [] ss by unfold QaB;rw[if_neg hf]]
  rcases h with h|⟨E,no,rfl,F,A⟩
  ·rw[h] at hf;simp at hf
  ·exact Qgk E no j b o n c ss.length ss cs w rfl (by omega) (by omega) q F A J z B I
theorem Qle (cs:List Cl):∀(ss o:List ByteArray),Qf7 cs o ss=0->∀s∈ss,∃k,Qak cs s.data.toList=some k
 |[],_,_,s,j=>absurd j (by simp)
 |a::r,o,h,s,j=>by
  rw[Qf7] at h
  split at h
  ·cases h
  ·rename_i q
   split at h
   ·cases h
   ·rcases List.mem_cons.1 j with rfl|j
    ·cases g:Qak cs s.data.toList with
     |none=>exact absurd g q
     |some k=>exact⟨k,rfl⟩
    ·exact Qle cs r _ h s j
def Qag (cs:List Cl) (ss:List ByteArray):List Nat:=ss.map fun s=>(Qak cs s.data.toList).getD 0
theorem Qcb {cs:List Cl} {ss:List ByteArray} (h:QaB cs ss=0):0<ss.length/\ss.length<=6/\(∀s∈ss,∃k,Qak cs s.data.toList=some k):=by
 unfold QaB at h
 split at h
 ·cases h
 ·exact⟨by omega,by omega,Qle cs ss [] h⟩
theorem QcP {cs:List Cl} {ss:List ByteArray} (h:∀s∈ss,∃k,Qak cs s.data.toList=some k):∀j (o:j<ss.length) (y:j<(Qag cs ss).length),Qak cs ss[j].data.toList=some (Qag cs ss)[j]:=by
 intro j o y
 obtain⟨k,q⟩:=h _ (List.getElem_mem o)
 simp[Qag,q]
theorem Qbu {cs:List Cl} {ss:List ByteArray} (h:∀s∈ss,∃k,Qak cs s.data.toList=some k):∀k∈Qag cs ss,k<cs.length:=by
 intro k y
 obtain⟨s,o,rfl⟩:=List.mem_map.1 y
 obtain⟨q,j⟩:=h s o
 rw[j]
 exact Qaj j
theorem Qfa (A N z D b o n c:Nat) (cs:List Cl) (ss:List ByteArray) (j:Jb) (w:World) (h:j.code=3) (U:0<z) (V:A<w.heap.size) (Z:w.cell? ⟨A,N,none⟩=some (.slice (some ⟨b,o,none⟩) n c)) (J:QaX w j.cols ss)
 (I:cs.length=n) (F:n<=100) (K:b<w.heap.size) (M:Qas w b o cs):
 Calls Tryz.prog 26 #[.agg j.cells,.slice (some ⟨A,N,none⟩) z D] w fun e w'=>e=.returned (Qbp (QaB cs ss))/\Below w.heap.size w w':=by
 have y:=fun W (B:Below w.heap.size w W)=>Qdr j.cols .nilIface ss b o n c cs W (J.below B) I F (by have:=B.size;omega) (M.below B K)
 obtain⟨ca,cc,E,-⟩:=J
 unfold Jb.cells
 rw[E] at y⊢
 generalize QaB cs ss=r at*
 obtain⟨code,q⟩:∃k,j.code=k:=⟨_,rfl⟩
 rw[q] at h⊢
 clear q
 subst h
 have T:=Hk y
 have htk':(0:Int)<(z:Int):=by omega
 clear y I M E
 go_enter Tryz.func26,Tryz.ntmps26
 go_wp2_with (go_at_call 47;refine(T.out _ (Qab _ _)).mono ?_;rintro e w1 ⟨rfl,O⟩)
 go_ret
 exact⟨rfl,Qaa (Qab _ _) O⟩
theorem Qd6 (O ho J V b o n c:Nat) (cs:List Cl) (ss:List ByteArray) (j:Jb) (w:World) (A:j.code=3) (ay:0<J) (aA:O<w.heap.size) (h0:w.cell? ⟨O,ho,none⟩=some (.slice (some ⟨b,o,none⟩) n c)) (hs:QaX w j.cols ss) (he:QaB cs ss=0)
 (N:cs.length=n) (ag:n<=100) (I:b<w.heap.size) (T:Qas w b o cs):
 Calls Tryz.prog 27 #[.agg j.cells,.slice (some ⟨O,ho,none⟩) J V] w fun e w'=>∃u,e=.returned u/\w'.ownsRow w.heap.size 56 2 u (QaT (Qag cs ss) cs).length (Qap (QaT (Qag cs ss) cs))/\Below w.heap.size w w':=by
 obtain⟨U,l6,q⟩:=Qcb he
 obtain⟨ca,cc,Z,M,aa,z⟩:=hs
 rcases z with h|⟨nb,no,rfl,hl,z⟩
 ·rw[h] at U;simp at U
 have F:(Qag cs ss).length=ss.length:=by simp[Qag]
 have hT:=fun W (y:Below w.heap.size w W)=>Qdq nb no cc b o n c ss.length ss (Qag cs ss) cs W rfl (by omega) (by have:=y.size;omega) (z.below y hl) N ag (by have:=y.size;omega) (T.below y I) F (QcP q)
 have K:=fun W (y:Below w.heap.size w W) g gc (hg:g<W.heap.size) (hi:QbJ W g 0 (Qag cs ss))=>Qe9 b o c g 0 gc cs (Qag cs ss) W (T.below y I) (by have:=y.size;omega) hi hg (Qbu q) (by omega) (by omega)
 rw[N] at K
 rw[show(QaT (Qag cs ss) cs).length=(Qag cs ss).length by simp[QaT]]
 unfold Jb.cells
 rw[Z]
 obtain⟨code,E⟩:∃k,j.code=k:=⟨_,rfl⟩
 rw[E] at A⊢
 clear E
 subst A
 have D:0<(Qag cs ss).length:=by omega
 generalize ai:Qag cs ss=ks at*
 have HT:=Hk hT
 have HQ:=Hk K
 have htk':(0:Int)<(J:Int):=by omega
 have HK:=Hk D
 clear hT K N T Z z q F U l6 he ai D aa M
 go_enter Tryz.func27,Tryz.ntmps27
 go_wp2_with (first|(go_at_call 52;refine(HT.out _ (Qab _ _)).mono ?_;rintro e w1 ⟨v1,rfl,ac,B⟩;obtain⟨g,gc,rfl,az,ae,af⟩:=Qey ac HK.out)|(go_at_call 51;refine(HQ.out _ (Qaa (Qab _ _) B) _ _ ae af).mono ?_;rintro e w2 ⟨v2,rfl,aj,ad⟩))
 go_ret
 exact⟨_,rfl,Qam (by have:=B.size;simp at this;omega) aj,Qaa (Qaa (Qab _ _) B) ad⟩
end Go.Proofs.YtofidnijfnhpaaaGreatDoor
