import Derived.Test.YtofidnijfnhpaaaGreatDoorQ01
import Derived.Test.YtofidnijfnhpaaaGreatDoorQ16
import Derived.Test.YtofidnijfnhpaaaGreatDoorQ19
import Derived.Test.YtofidnijfnhpaaaGreatDoorQ06
import Derived.Test.YtofidnijfnhpaaaGreatDoorQ10
set_option linter.unusedSimpArgs false
set_option linter.unusedVariables false
set_option linter.unusedSectionVars false
set_option maxRecDepth 1000000
set_option maxHeartbeats 16000000
namespace Go.Proofs.YtofidnijfnhpaaaGreatDoor
open Go.RowKit
theorem Qix (q y:Option Addr) (n c k o:Nat) (j:Jb) (w:World) (h:j.cols=.slice y k o) (z:k≠1):
 Calls Tryz.prog 46 #[.agg j.cells,.slice q n c] w fun e w'=>e=.returned (Qbp 1)/\Below w.heap.size w w':=by
 unfold Jb.cells
 rw[h]
 have hk':((k:Int) != 1)=true:=by simp;omega
 go_enter Tryz.func46,Tryz.ntmps46
 go_wp2
 go_ret
 exact⟨rfl,Qab _ _⟩
theorem Qiy (A B:Option Addr) (n c z:Nat) (j:Jb) (w:World) (q:j.cols=.slice B 1 z) (h:inS QaF j.op.data.toList=false):
 Calls Tryz.prog 46 #[.agg j.cells,.slice A n c] w fun e w'=>e=.returned (Qbp 1)/\Below w.heap.size w w':=by
 have y:=Hk (fun(W:World) (H:Nat) (o:W.heap.size=H)=>show Calls Tryz.prog 76 #[.slice (some ⟨H,0,none⟩) 3 3,.string j.op] (W.alloc (.cells #[.string ⟨#[43]⟩,.string ⟨#[45]⟩,.string ⟨#[42]⟩] 9)) (fun e w'=>e=.returned (.bool false)/\w'=W.alloc (.cells #[.string ⟨#[43]⟩,.string ⟨#[45]⟩,.string ⟨#[42]⟩] 9)) from by
  subst o
  rw[<-h]
  exact Qb5 W.heap.size 0 3 3 QaF j.op _ rfl (by decide) (QhS W))
 unfold Jb.cells
 rw[q]
 clear h
 go_enter Tryz.func46,Tryz.ntmps46
 go_wp2_with (go_at_call 76;refine(y.out _ _ (by simp)).mono ?_;rintro e D ⟨rfl,rfl⟩)
 go_ret
 exact⟨rfl,Qad (Qab _ _) _⟩
theorem Qhl (z h A:Option Addr) (n c y c2 k q:Nat) (j:Jb) (w:World) (o:j.cols=.slice A k q) (B:k≠2):
 Calls Tryz.prog 49 #[.agg j.cells,.slice z n c,.slice h y c2] w fun e w'=>e=.returned (Qbp 1)/\Below w.heap.size w w':=by
 unfold Jb.cells
 rw[o]
 have hk':((k:Int) != 2)=true:=by simp;omega
 go_enter Tryz.func49,Tryz.ntmps49
 go_wp2
 go_ret
 exact⟨rfl,Qab _ _⟩
theorem Qgw (q y:Option Addr) (n c k o:Nat) (j:Jb) (w:World) (h:j.cols=.slice y k o) (z:k≠2):
 Calls Tryz.prog 50 #[.agg j.cells,.slice q n c] w fun e w'=>e=.returned (Qbp 1)/\Below w.heap.size w w':=by
 unfold Jb.cells
 rw[h]
 have hk':((k:Int) != 2)=true:=by simp;omega
 go_enter Tryz.func50,Tryz.ntmps50
 go_wp2
 go_ret
 exact⟨rfl,Qab _ _⟩
theorem Qgx (z A:Option Addr) (n c o:Nat) (j:Jb) (w:World) (h:j.cols=.slice A 2 o) (q:j.op≠⟨#[115,117,109]⟩) (y:j.op≠⟨#[109,97,120]⟩):
 Calls Tryz.prog 50 #[.agg j.cells,.slice z n c] w fun e w'=>e=.returned (Qbp 1)/\Below w.heap.size w w':=by
 have D:(j.op.toList==[115,117,109])=false:=by
  rw[beq_eq_false_iff_ne]
  intro e
  exact q (QbS (by rw[e,ByteArray.toList_eq]))
 have B:(j.op.toList==[109,97,120])=false:=by
  rw[beq_eq_false_iff_ne]
  intro e
  exact y (QbS (by rw[e,ByteArray.toList_eq]))
 unfold Jb.cells
 rw[h]
 go_enter Tryz.func50,Tryz.ntmps50
 go_wp2
 go_ret
 exact⟨rfl,Qab _ _⟩
theorem Qfh (y B z A b o n c:Nat) (j:Jb) (r:Int) (w:World) (h:j.code=2) (F:0<z) (I:y<w.heap.size) (J:w.cell? ⟨y,B,none⟩=some (.slice (some ⟨b,o,none⟩) n c))
 (q:∀W,Below w.heap.size w W->Calls Tryz.prog 46 #[.agg j.cells,.slice (some ⟨b,o,none⟩) n c] W fun e w'=>e=.returned (Qbp r)/\Below W.heap.size W w'):
 Calls Tryz.prog 26 #[.agg j.cells,.slice (some ⟨y,B,none⟩) z A] w fun e w'=>e=.returned (Qbp r)/\Below w.heap.size w w':=by
 unfold Jb.cells at q⊢
 rw[h] at q⊢
 generalize Qbp r=ev at*
 have E:=Hk q
 have htk':(0:Int)<(z:Int):=by omega
 clear q h
 go_enter Tryz.func26,Tryz.ntmps26
 go_wp2_with (go_at_call 46;refine(E.out _ (Qab _ _)).mono ?_;rintro e K ⟨rfl,D⟩)
 go_ret
 exact⟨rfl,Qaa (Qab _ _) D⟩
theorem Qlw (V I:Option Addr) (c m J F M:Nat) (j:Jb) (w:World) (E:j.outs=.slice I m J) (K:QaP j.code=((F:Int),(M:Int))):
 Calls Tryz.prog 14 #[.agg j.cells,.slice V 0 c] w fun e w'=>e=.returned (.tuple #[.slice none 0 0,Qbp 1])/\Below w.heap.size w w':=by
 have z:=fun W=>QfD none I 0 0 m J j F M W E K (by omega)
 rw[Qa1 (by decide)] at z⊢
 unfold Jb.cells at z
 have T:=Hk z
 clear z E K
 have o:=Qbd w j 28
 unfold Jb.cells at o⊢
 have B:=Hk o
 clear o
 go_enter Tryz.func14,Tryz.ntmps14
 go_wp2
 refine QbH (G:=fun w=>Code.wp _ _ _ _ w) (fun q=>Qaz q w.heap.size j/\Below w.heap.size w q/\w.heap.size<q.heap.size) _ ⟨B.out,Qab _ _,by simp⟩ ?_
 clear B
 intro q ⟨h,D,aa⟩
 have N:=Hk (Ai h D)
 clear h D
 go_loopw [6,16] (fun l i wr=>l=.slice none 0 0/\i=.int .i64 0/\wr=q) (fun _ _ _=>0)
 case atStart=>exact⟨rfl,rfl,rfl⟩
 case round=>
  obtain⟨rfl,rfl,y⟩:=hrel
  have h:Qaz wr w.heap.size j:=by rw[y];exact N.out.1
  have A:Below w.heap.size w wr:=by rw[y];exact N.out.2
  have U:=Hk A
  have af:=h.lt
  have j0:wr.cell? ⟨w.heap.size,0,none⟩=some (.int .i64 j.at_):=h 0 _ rfl
  have j1:wr.cell? ⟨w.heap.size,1,none⟩=some (.int .i64 j.code):=h 1 _ rfl
  have j2:wr.cell? ⟨w.heap.size,2,none⟩=some (j.outs):=h 2 _ rfl
  have j3:wr.cell? ⟨w.heap.size,3,none⟩=some (j.ins):=h 3 _ rfl
  have j4:wr.cell? ⟨w.heap.size,4,none⟩=some (j.cols):=h 4 _ rfl
  have j5:wr.cell? ⟨w.heap.size,5,none⟩=some (.string j.op):=h 5 _ rfl
  have j6:wr.cell? ⟨w.heap.size,6,none⟩=some (.string j.left.1):=h 6 _ rfl
  have j7:wr.cell? ⟨w.heap.size,7,none⟩=some (.int .i64 j.left.2.1):=h 7 _ rfl
  have j8:wr.cell? ⟨w.heap.size,8,none⟩=some (.int .i64 j.left.2.2.1):=h 8 _ rfl
  have j9:wr.cell? ⟨w.heap.size,9,none⟩=some (.string j.left.2.2.2):=h 9 _ rfl
  have ae:wr.cell? ⟨w.heap.size,10,none⟩=some (.string j.right.1):=h 10 _ rfl
  have Z:wr.cell? ⟨w.heap.size,11,none⟩=some (.int .i64 j.right.2.1):=h 11 _ rfl
  have ad:wr.cell? ⟨w.heap.size,12,none⟩=some (.int .i64 j.right.2.2.1):=h 12 _ rfl
  have ac:wr.cell? ⟨w.heap.size,13,none⟩=some (.string j.right.2.2.2):=h 13 _ rfl
  have ab:wr.cell? ⟨w.heap.size,14,none⟩=some (.int .i64 j.retry):=h 14 _ rfl
  clear h A y
  go_wp2_with (go_at_call 10;refine(T.out _).mono ?_;rintro e w1 ⟨rfl,O⟩)
  go_ret2
  exact⟨rfl,Qaa U.out O⟩
theorem QfJ (q o tcap:Nat) (vc vr T:Value) (cs:List Cl) (rs y:List (List Vl)) (j:Jb) (w:World) (A:j.code=5) (I:q<w.heap.size) (t0:w.cell? ⟨q,o,none⟩=some vc) (t1:w.cell? ⟨q,o+1,none⟩=some vr) (t3:w.cell? ⟨q,o+2+1,none⟩=some T)
 (hc:Qav w vc cs) (hr:QaC w vr rs) (ac:QaC w T y) (ae:∀r∈y,r.length=cs.length) (K:y.length<=100) (h1:1<=cs.length) (h6:cs.length<=100) (hl:∀r∈rs,r.length=cs.length) (Z:rs.length<=100):
 Calls Tryz.prog 40 #[.agg j.cells,.slice (some ⟨q,o,none⟩) 2 tcap] w fun e w'=>∃U us1,e=.returned (.tuple #[U,.slice none 0 0,.nilIface])/\w'.ownsRow w.heap.size 57 1 U (rs++y).length us1/\Qac w' w.heap.size us1 (rs++y)/\Below w.heap.size w w':=by
 have aT:=mkF
 have ag:=Hk (fun W (hW:Below w.heap.size w W)=>Qba vr rs cs.length W (hr.below hW) hl h1 h6 Z)
 have al:=Hk (fun W (hW:Below w.heap.size w W)=>Qba T y cs.length W (ac.below hW) ae h1 h6 K)
 clear hl ae
 obtain⟨va,af,rfl,-⟩:=hc
 obtain⟨ra,ar,rfl,-⟩:=hr
 obtain⟨aQ,aI,rfl,-⟩:=ac
 have aa:Qaz (w.alloc (.cells j.cells 28)) w.heap.size j:=fun k v hk=>by rw[World.cell?_alloc_at _ _ _ _ rfl];exact hk
 have E:=Hk aa
 clear aa
 unfold Jb.cells at E⊢
 rw[A] at E⊢
 have au:=Hk A
 clear A
 all_goals
  go_enter Tryz.func40,Tryz.ntmps40
  go_wp2_with fail
  go_cut [7,8] (fun p v wx=>∃(V:Nat) (us:List Value),p=.pointer (some ⟨V,0,none⟩)/\wx.cell? ⟨V,0,none⟩=some (.slice va cs.length af)/\V<wx.heap.size/\wx.ownsRow (w.heap.size+1) 57 1 v rs.length us/\Qac wx (w.heap.size+1) us rs/\Qaz wx w.heap.size j/\Below w.heap.size w wx)
  case first=>
   go_region_held3 (fun w'=>w'.cell? ⟨q,o,none⟩=some (.slice va cs.length af)/\w'.cell? ⟨q,o+1,none⟩=some (.slice ra rs.length ar))
    (first|(go_keep;done)|exact⟨(World.cell?_setCell_other _ _ _ _ (by intro e;simp at e;try omega)).trans k0,(World.cell?_setCell_other _ _ _ _ (by intro e;simp at e;try omega)).trans k1⟩)
    (first|(go_at_call 63;refine(ag.out _ (by first|exact(Qab _ _).drew|exact(Qad (Qab _ _) _).drew)).mono ?_;rintro e F ⟨U,us,rfl,B,D,h⟩;have z:=Qaa (show Below w.heap.size w _ from(by first|exact(Qab _ _).drew|exact(Qad (Qab _ _) _).drew)) h;have k0:=cK z I t0;have k1:=cK z I t1;have aO:q<F.heap.size:=Nat.lt_of_lt_of_le I z.size;(try(have kb:=(h.cell (p:=⟨w.heap.size+1,0,none⟩) (by simp)).trans (show _=some (Value.slice none 0 0) by simp);have kf:=(h.frozen (p:=⟨w.heap.size+1,0,none⟩) (by simp)).trans (show _=false by simp);have kz:w.heap.size+1<F.heap.size:=by(have:=h.size;simp at this;omega)))))
   all_goals go_wp2_with fail
   all_goals go_meet
   ·have M:Qaz F w.heap.size j:=fun k v hk=>(h.cell (p:=⟨w.heap.size,k,none⟩) (by simp)).trans (by simpa using E.out k v hk)
    exact⟨F.heap.size,us,rfl,by simp,by simp,(Qam (by simp) B).alloc _,(D.mono (by simp)).below (Qab _ _),M.below (Qab _ _) (by have:=h.size;simp at this;omega),Qad z _⟩
   ·have M:Qaz F w.heap.size j:=fun k v hk=>(h.cell (p:=⟨w.heap.size,k,none⟩) (by simp;omega)).trans (by simpa using E.out k v hk)
    exact⟨w.heap.size+1,us,rfl,World.cell?_setCell_same _ _ _ kb,by simpa using kz,Qam (by simp) (ownsRow_setCell_below B (by simp) _),(Qac.set D (by simp)).mono (by simp),fun k v hk=>(World.cell?_setCell_other _ _ _ _ (by intro e;simp at e)).trans (M k v hk),z.setCell (by show w.heap.size<=w.heap.size+1;omega) _⟩
  case rest=>
   obtain⟨V,us,rfl,aP,aH,hv,hH,hJ,J⟩:=hcut
   have aR:=J.size
   have j1:wc.cell? ⟨w.heap.size,1,none⟩=some (.int .i64 5):=by have:=hJ 1 (.int .i64 j.code) rfl;rw[au.out] at this;exact this
   have m3:=cK J I t3
   have aU:=hJ.lt
   have O:=Hk (Ai J (Ai hv hH))
   obtain⟨xa,xc,rfl⟩:=Qae hv
   clear J hv hH hJ ag E t0 t1 t3
   go_wp2_with (first|(go_at_call 63;refine(al.out _ O.out.1).mono ?_;rintro e F ⟨U,ad,rfl,B,D,h⟩;obtain⟨aN,aV,rfl⟩:=Qae B)|(go_at_call 71;refine(Qir F.heap.size rs.length y.length _ _ us ad _ _ _ (by simp) (by simp) (by simp) ((Qaf O.out.2.1 h).alloc _) (B.alloc _) Z K (Qkw O.out.2.2 D)).mono ?_;rintro e w2 ⟨v2,rfl,ax,N⟩))
   go_ret3
   have aS:=h.size
   refine⟨_,us++ad,rfl,?_,?_,Qaa (Qad (Qaa O.out.1 h) _) N⟩
   ·rw[List.length_append]
    exact Qam (by simp;omega) ax
   ·have g1:=((O.out.2.2.below h).below (Qab _ _)).below N
    have g2:=(D.below (Qab _ _)).below N
    exact(g1.mono (by omega)).append (g2.mono (by omega))
theorem Qjr {q h tcap:Nat} {t u:Tb} {j:Jb} {w:World} (D:j.code=5) (O:Qa0 w q h [t,u]) (y:q<w.heap.size) (hr:Qan t.1 t.2=true) (F:Qan u.1 u.2=true) (he:t.1=u.1):
 ∀W,Below w.heap.size w W->Calls Tryz.prog 40 #[.agg j.cells,.slice (some ⟨q,h,none⟩) [t,u].length tcap] W fun e A=>∃B v2 z us2,e=.returned (.tuple #[B,v2,.nilIface])/\A.ownsRow W.heap.size 57 1 B (t.2++u.2).length z/\Qac A W.heap.size z (t.2++u.2)/\A.ownsRow W.heap.size 57 1 v2 ([]:List (List Vl)).length us2/\Qac A W.heap.size us2 []/\Below W.heap.size W A:=by
 obtain⟨M,ag,ah,N⟩:=Qar hr
 obtain⟨af,ae,aj,I⟩:=Qar F
 intro W o
 obtain⟨vc,U,c0,c1,hc,J⟩:=O 0 (by simp)
 obtain⟨ai,K,c2,c3,ak,E⟩:=O 1 (by simp)
 refine(QfJ q h tcap vc U K t.1 t.2 u.2 j W D (Nat.lt_of_lt_of_le y o.size) ((o.cell (p:=⟨q,h,none⟩) y).trans (by simpa using c0)) ((o.cell (p:=⟨q,h+1,none⟩) y).trans (by simpa using c1)) ((o.cell (p:=⟨q,h+2+1,none⟩) y).trans (by simpa using c3)) (hc.below o) (J.below o) (E.below o) (by rw[he];exact I) (by omega) M (by omega) N (by omega)).mono ?_
 rintro e A ⟨B,z,h1,T,V,Z⟩
 exact⟨B,.slice none 0 0,z,[],h1,T,V,World.ownsRow_nil _ _ _ _,Qac.nil _ _,Z⟩
theorem Qgy (o h tcap z no cc p q:Nat) (vc vr aE af:Value) (cs E:List Cl) (rs B:List (List Vl)) (x y:ByteArray) (j:Jb) (w:World) (K:j.code=7) (hj:j.cols=.slice (some ⟨z,no,none⟩) 2 cc) (av:z<w.heap.size) (s0:w.cell? ⟨z,no,none⟩=some (.string x)) (s1:w.cell? ⟨z,no+1,none⟩=some (.string y)) (hp:Qak cs x.data.toList=some p) (hq:Qak E y.data.toList=some q) (N:o<w.heap.size) (t0:w.cell? ⟨o,h,none⟩=some vc) (t1:w.cell? ⟨o,h+1,none⟩=some vr) (t2:w.cell? ⟨o,h+2,none⟩=some aE) (t3:w.cell? ⟨o,h+2+1,none⟩=some af)
 (hc:Qav w vc cs) (hr:QaC w vr rs) (aI:Qav w aE E) (aq:QcS w af B) (aJ:∀r∈B,r.length=E.length) (aR:B.length<=100) (aC:1<=E.length) (bt:E.length<=40) (h1:1<=cs.length) (h6:cs.length<=40) (hl:∀r∈rs,r.length=cs.length) (aH:rs.length<=100):
 Calls Tryz.prog 40 #[.agg j.cells,.slice (some ⟨o,h,none⟩) 2 tcap] w fun e w'=>∃v1 us1,e=.returned (.tuple #[v1,.slice none 0 0,.nilIface])/\w'.ownsRow w.heap.size 57 1 v1 (Qbr rs B p q).length us1/\Qac w' w.heap.size us1 (Qbr rs B p q)/\Below w.heap.size w w':=by
 have bw:=mkF
 have aG:=Hk (fun W (M:Below w.heap.size w W)=>Qba vr rs cs.length W (hr.below M) hl h1 (by omega) aH)
 have a8:=Qaj hp
 have aW:=Qaj hq
 have be:=Hk (fun(v:Value) W (M:Below w.heap.size w W) (hv:QcS W v rs)=>Qiw v af rs B cs.length E.length p q W hv (aq.below M) hl aJ h1 (by omega) aC (by omega) a8 aW aH aR)
 obtain⟨b1,Z,I,rfl,aM,aj⟩:=Qcp hc h1
 obtain⟨b2,o2,J,rfl,aL,ak⟩:=Qcp aI aC
 have aA:Hid (∀(v:Value) (nm:ByteArray) (k:Int) (W:World),Below w.heap.size w W->(v=.slice (some ⟨b1,Z,none⟩) cs.length I/\nm=x/\k=(p:Int)\/v=.slice (some ⟨b2,o2,none⟩) E.length J/\nm=y/\k=(q:Int))->Calls Tryz.prog 54 #[v,.string nm] W fun e w'=>e=.returned (.int .i64 k)/\Below W.heap.size W w'):=by
  refine Hk ?_
  rintro v nm k W M (⟨rfl,rfl,rfl⟩|⟨rfl,rfl,rfl⟩)
  ·rw[<-Qaw hp]
   exact QaL b1 Z cs.length I cs nm W rfl (by omega) (by have:=M.size;omega) (aj.below M aM)
  ·rw[<-Qaw hq]
   exact QaL b2 o2 E.length J E nm W rfl (by omega) (by have:=M.size;omega) (ak.below M aL)
 clear hl aJ hc aI aj ak hp hq
 obtain⟨ra,a5,rfl,-⟩:=hr
 obtain⟨aD,ae,rfl,-⟩:=aq
 have ap:Qaz (w.alloc (.cells j.cells 28)) w.heap.size j:=fun k v hk=>by rw[World.cell?_alloc_at _ _ _ _ rfl];exact hk
 have O:=Hk ap
 clear ap
 unfold Jb.cells at O⊢
 rw[K,hj] at O⊢
 have ax:=Hk (Ai K hj)
 clear K hj
 all_goals
  go_enter Tryz.func40,Tryz.ntmps40
  go_wp2_with fail
  go_cut [7,8] (fun p v wx=>∃(T:Nat) (us:List Value),p=.pointer (some ⟨T,0,none⟩)/\wx.cell? ⟨T,0,none⟩=some (.slice (some ⟨b1,Z,none⟩) cs.length I)/\T<wx.heap.size/\wx.ownsRow (w.heap.size+1) 57 1 v rs.length us/\Qac wx (w.heap.size+1) us rs/\Qaz wx w.heap.size j/\Below w.heap.size w wx)
  case first=>
   go_region_held3 (fun w'=>w'.cell? ⟨o,h,none⟩=some (.slice (some ⟨b1,Z,none⟩) cs.length I)/\w'.cell? ⟨o,h+1,none⟩=some (.slice ra rs.length a5))
    (first|(go_keep;done)|exact⟨(World.cell?_setCell_other _ _ _ _ (by intro e;simp at e;try omega)).trans k0,(World.cell?_setCell_other _ _ _ _ (by intro e;simp at e;try omega)).trans k1⟩)
    (first|(go_at_call 63;refine(aG.out _ (by first|exact(Qab _ _).drew|exact(Qad (Qab _ _) _).drew)).mono ?_;rintro e w1 ⟨v1,us,rfl,ar,aB,A⟩;have F:=Qaa (show Below w.heap.size w _ from(by first|exact(Qab _ _).drew|exact(Qad (Qab _ _) _).drew)) A;have k0:=cK F N t0;have k1:=cK F N t1;have bu:o<w1.heap.size:=Nat.lt_of_lt_of_le N F.size;(try(have kb:=(A.cell (p:=⟨w.heap.size+1,0,none⟩) (by simp)).trans (show _=some (Value.slice none 0 0) by simp);have kf:=(A.frozen (p:=⟨w.heap.size+1,0,none⟩) (by simp)).trans (show _=false by simp);have kz:w.heap.size+1<w1.heap.size:=by(have:=A.size;simp at this;omega)))))
   all_goals go_wp2_with fail
   all_goals go_meet
   ·have ad:Qaz w1 w.heap.size j:=fun k v hk=>(A.cell (p:=⟨w.heap.size,k,none⟩) (by simp)).trans (by simpa using O.out k v hk)
    exact⟨w1.heap.size,us,rfl,by simp,by simp,(Qam (by simp) ar).alloc _,(aB.mono (by simp)).below (Qab _ _),ad.below (Qab _ _) (by have:=A.size;simp at this;omega),Qad F _⟩
   ·have ad:Qaz w1 w.heap.size j:=fun k v hk=>(A.cell (p:=⟨w.heap.size,k,none⟩) (by simp;omega)).trans (by simpa using O.out k v hk)
    exact⟨w.heap.size+1,us,rfl,World.cell?_setCell_same _ _ _ kb,by simpa using kz,Qam (by simp) (ownsRow_setCell_below ar (by simp) _),(Qac.set aB (by simp)).mono (by simp),fun k v hk=>(World.cell?_setCell_other _ _ _ _ (by intro e;simp at e)).trans (ad k v hk),F.setCell (by show w.heap.size<=w.heap.size+1;omega) _⟩
  case rest=>
   obtain⟨T,us,rfl,a7,aV,hv,hH,hJ,D⟩:=hcut
   have bv:=D.size
   have j1:wc.cell? ⟨w.heap.size,1,none⟩=some (.int .i64 7):=by have:=hJ 1 (.int .i64 j.code) rfl;rw[ax.out.1] at this;exact this
   have j4:wc.cell? ⟨w.heap.size,4,none⟩=some (.slice (some ⟨z,no,none⟩) 2 cc):=by have:=hJ 4 j.cols rfl;rw[ax.out.2] at this;exact this
   have bb:=hJ.lt
   have z2:=cK D N t2
   have z3:=cK D N t3
   have z4:=cK D av s0
   have z5:=cK D av s1
   have KX:Hid (∀V,Below wc.heap.size wc V->V.cell? ⟨o,h+2+1,none⟩=some (.slice aD B.length ae)/\V.cell? ⟨T,0,none⟩=some (.slice (some ⟨b1,Z,none⟩) cs.length I)/\V.cell? ⟨w.heap.size,4,none⟩=some (.slice (some ⟨z,no,none⟩) 2 cc)/\V.cell? ⟨z,no,none⟩=some (.string x)/\V.cell? ⟨o,h+2,none⟩=some (.slice (some ⟨b2,o2,none⟩) E.length J)/\V.cell? ⟨z,no+1,none⟩=some (.string y)):=Hk (fun V hV=>⟨cK hV (by omega) z3,cK hV aV a7,cK hV bb j4,cK hV (by omega) z4,cK hV (by omega) z2,cK hV (by omega) z5⟩)
   have HB:=Hk (Ai D (QfI hv hH))
   obtain⟨xa,xc,rfl⟩:=Qae hv
   clear D hv hH hJ aG O t0 t1 t2 t3 s0 s1
   have ai:=Hk (Ai (show Below wc.heap.size wc wc.drew from(Below.refl _ _).drew) HB.out.1.drew)
   go_wp2_with fail
   go_region_held3 (fun V=>V.cell? ⟨o,h+2+1,none⟩=some (.slice aD B.length ae)/\V.cell? ⟨T,0,none⟩=some (.slice (some ⟨b1,Z,none⟩) cs.length I)/\V.cell? ⟨w.heap.size,4,none⟩=some (.slice (some ⟨z,no,none⟩) 2 cc)/\V.cell? ⟨z,no,none⟩=some (.string x)/\V.cell? ⟨o,h+2,none⟩=some (.slice (some ⟨b2,o2,none⟩) E.length J)/\V.cell? ⟨z,no+1,none⟩=some (.string y))
    (first|(go_keep;done)|exact KX.out _ a6.out|exact KX.out _ ah.out|exact KX.out _ ay.out)
    (first|(go_at_call 73;refine(be.out _ _ U.out (HB.out.2.below ah.out)).mono ?_;rintro e w3 ⟨v3,bg,rfl,ba,bd,az⟩;have a6:=Hk (Qaa ah.out az);have aY:=Hk (Qaa U.out az))|(go_at_call 54;refine(aA.out _ _ _ _ au.out (by first|exact Or.inl ⟨rfl,rfl,rfl⟩|exact Or.inr ⟨rfl,rfl,rfl⟩)).mono ?_;rintro e w2 ⟨rfl,aw⟩;have ah:=Hk (Qaa ay.out aw);have U:=Hk (Qaa au.out aw))|(go_at_call 54;refine(aA.out _ _ _ _ ai.out.2 (by first|exact Or.inl ⟨rfl,rfl,rfl⟩|exact Or.inr ⟨rfl,rfl,rfl⟩)).mono ?_;rintro e w1 ⟨rfl,A⟩;have ay:=Hk (Qaa ai.out.1 A);have au:=Hk (Qaa ai.out.2 A)))
   go_wp2
   go_ret3
   exact⟨_,bg,rfl,Qam (by have:=U.out.size;omega) ba,bd.mono (by have:=U.out.size;omega),aY.out⟩
theorem Qiz {q h tcap:Nat} {t u:Tb} {x y:ByteArray} {D:Value} {j:Jb} {w:World} (F:j.code=7) (hN:Qc5 w j.cols x y) (ht:Qa0 w q h [t,u]) (z:q<w.heap.size) (I:w.cell? ⟨q,h+2+1,none⟩=some D) (J:QcS w D u.2) (hr:Qan t.1 t.2=true) (K:Qan u.1 u.2=true) (he:QaQ t.1 u.1 x y=0):
 ∀W,Below w.heap.size w W->Calls Tryz.prog 40 #[.agg j.cells,.slice (some ⟨q,h,none⟩) [t,u].length tcap] W fun e B=>∃E v2 A us2,e=.returned (.tuple #[E,v2,.nilIface])/\B.ownsRow W.heap.size 57 1 E (Qbr t.2 u.2 (pOf t.1 x) (pOf u.1 y)).length A/\Qac B W.heap.size A (Qbr t.2 u.2 (pOf t.1 x) (pOf u.1 y))/\B.ownsRow W.heap.size 57 1 v2 ([]:List (List Vl)).length us2/\Qac B W.heap.size us2 []/\Below W.heap.size W B:=by
 obtain⟨U,av,aw,V⟩:=Qar hr
 obtain⟨M,au,ax,N⟩:=Qar K
 obtain⟨hp,hq⟩:=QeE he
 intro W o
 obtain⟨vc,vr,c0,c1,hc,O⟩:=ht 0 (by simp)
 obtain⟨T,ay,c2,c3,Z,al⟩:=ht 1 (by simp)
 obtain⟨nb,no,cc,e,hl,s0,s1⟩:=hN.below o
 refine(Qgy q h tcap nb no cc (pOf t.1 x) (pOf u.1 y) vc vr T D t.1 u.1 t.2 u.2 x y j W F e hl s0 s1 hp hq (Nat.lt_of_lt_of_le z o.size) ((o.cell (p:=⟨q,h,none⟩) z).trans (by simpa using c0)) ((o.cell (p:=⟨q,h+1,none⟩) z).trans (by simpa using c1)) ((o.cell (p:=⟨q,h+2,none⟩) z).trans (by simpa using c2)) (cK o z I) (hc.below o) (O.below o) (Z.below o) (J.below o) N (by omega) M (by omega) U (by omega) V (by omega)).mono ?_
 rintro e B ⟨E,A,h1,h2,h3,hb⟩
 exact⟨E,.slice none 0 0,A,[],h1,h2,h3,World.ownsRow_nil _ _ _ _,Qac.nil _ _,hb⟩
end Go.Proofs.YtofidnijfnhpaaaGreatDoor
