import Derived.Test.YtofidnijfnhpaaaGreatDoorQ01
import Derived.Test.YtofidnijfnhpaaaGreatDoorQ24
import Derived.Test.YtofidnijfnhpaaaGreatDoorQ15
import Derived.Test.YtofidnijfnhpaaaGreatDoorQ21
import Derived.Test.YtofidnijfnhpaaaGreatDoorQ10
set_option linter.unusedSimpArgs false
set_option linter.unusedVariables false
set_option linter.unusedSectionVars false
set_option maxRecDepth 1000000
set_option maxHeartbeats 16000000
namespace Go.Proofs.YtofidnijfnhpaaaGreatDoor
open Go.RowKit
def QiE:List UInt8->List (List UInt8)
 |[]=>[]
 |c::r=>if c=32 then r.takeWhile (· != 32)::QiE r else QiE r
theorem QkH {s r t:List UInt8} (j:32∉s) (h:r=s++32::t):r.takeWhile (· != 32)=s:=by
 subst h
 induction s with
 |nil=>simp
 |cons a s ih=>
  have o:a≠32:=fun e=>j (by simp[e])
  have:(a != 32)=true:=by simp[o]
  rw[List.cons_append,List.takeWhile_cons,this,if_pos rfl,ih (fun h=>j (by simp[h]))]
theorem QlB {s:List UInt8} (o:32∉s) (l:List UInt8) (i:Nat) (h:(32::s++[32]).isPrefixOf (l.drop i)=true):s∈QiE l:=by
 induction l generalizing i with
 |nil=>simp at h
 |cons c r ih=>
  unfold QiE
  cases i with
  |zero=>
   rw[List.drop_zero,List.isPrefixOf_iff_prefix] at h
   obtain⟨t,j⟩:=h
   simp only[List.cons_append,List.append_assoc,List.cons.injEq] at j
   obtain⟨rfl,j⟩:=j
   rw[if_pos rfl,QkH o j.symm]
   simp
  |succ i=>
   have:=ih i h
   split
   ·exact List.mem_cons_of_mem _ this
   ·exact this
def QcX (s W:List UInt8):Bool:=s != []&& !(Lib.contains s [32])&&Lib.contains (32::W++[32]) (32::s++[32])
theorem QkI {s:List UInt8} (h:Lib.contains s [32]=false):(32:UInt8)∉s:=by
 intro q
 obtain⟨a,b,rfl⟩:=List.append_of_mem q
 rcases Lib.index_spec (a++32::b) [32] with ⟨j,o⟩|⟨i,j,-⟩
 ·have:=o a.length (by simp)
  simp[Lib.occAt] at this
 ·unfold Lib.contains at h
  rw[j] at h
  simp at h
theorem QkJ {s W:List UInt8} {L:List (List UInt8)} (y:∀x∈QiE (32::W++[32]),x∈L\/x=[]) (B:∀x∈L,QcX x W=true):QcX s W=decide (s∈L):=by
 by_cases hm:s∈L
 ·rw[B s hm,decide_eq_true hm]
 ·rw[decide_eq_false hm,Bool.eq_false_iff]
  intro h
  unfold QcX at h
  simp only[Bool.and_eq_true,Bool.not_eq_true',bne_iff_ne] at h
  obtain⟨⟨o,q⟩,j⟩:=h
  unfold Lib.contains at j
  rcases Lib.index_spec (32::W++[32]) (32::s++[32]) with ⟨A,-⟩|⟨i,-,-,z,-⟩
  ·rw[A] at j;simp at j
  ·rcases y s (QlB (QkI q) _ i z) with h|h
   ·exact hm h
   ·exact o h
theorem QiF (s W:ByteArray) (w:World) (K:Env w) (N:s.size<=1000000) (M:W.size<=100):Calls Tryz.prog 21 #[.string s,.string W] w fun e w'=>e=.returned (.bool (QcX s.data.toList W.data.toList))/\w'=w:=by
 obtain⟨m,J⟩:=K.mx
 have I:Hid (∀(x y:ByteArray),x.size<=2000000->Calls Tryz.prog 44 #[.string x,.string y] w fun e w'=>e=.returned (.bool (Lib.contains x.data.toList y.data.toList))/\w'=w):=Hk fun x y hx=>Tryz.strings_Contains x y m w (by omega) J
 clear K J
 by_cases h0:s.data.toList=[]
 ·have D:s.toList.isEmpty=true:=by rw[ByteArray.toList_eq,h0];rfl
  have z:=Hk (show QcX s.data.toList W.data.toList=false by unfold QcX;rw[h0];rfl)
  clear h0
  go_enter Tryz.func21,Tryz.ntmps21
  go_wp2
  go_ret
  exact⟨Qal z.out.symm,rfl⟩
 have D:s.toList.isEmpty=false:=by
  rw[ByteArray.toList_eq]
  cases h:s.data.toList with
  |nil=>exact absurd h h0
  |cons a q=>rfl
 have j:(s.data.toList != [])=true:=by simp[h0]
 cases hc:Lib.contains s.data.toList [32] with
 |true=>
  have o:=Hk (I.out s ⟨#[32]⟩ (by omega))
  rw[show Lib.contains s.data.toList (⟨#[32]⟩:ByteArray).data.toList=true from hc] at o
  have z:=Hk (show QcX s.data.toList W.data.toList=false by unfold QcX;rw[hc];simp)
  clear h0 j hc
  go_enter Tryz.func21,Tryz.ntmps21
  go_wp2_with (go_at_call 44;refine o.out.mono ?_;rintro e B ⟨rfl,rfl⟩)
  go_ret
  exact⟨Qal z.out.symm,rfl⟩
 |false=>
  have o:=Hk (I.out s ⟨#[32]⟩ (by omega))
  rw[show Lib.contains s.data.toList (⟨#[32]⟩:ByteArray).data.toList=false from hc] at o
  have E:∀l:ByteArray,((⟨#[32]⟩++l++⟨#[32]⟩:ByteArray)).data.toList=32::l.data.toList++[32]:=fun l=>by simp
  have F:=Hk (I.out (⟨#[32]⟩++W++⟨#[32]⟩) (⟨#[32]⟩++s++⟨#[32]⟩) (by rw[ByteArray.size_append,ByteArray.size_append];show 1+W.size+1<=_;omega))
  rw[E,E] at F
  have z:=Hk (show QcX s.data.toList W.data.toList=Lib.contains (32::W.data.toList++[32]) (32::s.data.toList++[32]) by unfold QcX;rw[hc,j];simp)
  clear h0 j hc E
  go_enter Tryz.func21,Tryz.ntmps21
  go_wp2_with (go_at_call 44;fail)
  refine o.out.mono ?_
  rintro e B ⟨rfl,A⟩
  obtain rfl:w=B:=A.symm
  clear A o
  go_wp2_with (go_at_call 44;fail)
  refine F.out.mono ?_
  rintro e B ⟨rfl,A⟩
  obtain rfl:w=B:=A.symm
  clear A F
  go_wp2
  go_ret
  exact⟨Qal z.out.symm,rfl⟩
theorem Qcs (W:ByteArray) (L:List (List UInt8)) (o:∀x∈QiE (32::W.data.toList++[32]),x∈L\/x=[]) (q:∀x∈L,QcX x W.data.toList=true) (h:W.size<=100) (s:ByteArray) (w:World) (y:Env w) (j:s.size<=1000000):Calls Tryz.prog 21 #[.string s,.string W] w fun e w'=>e=.returned (.bool (decide (s.data.toList∈L)))/\w'=w:=by
 rw[<-QkJ o q]
 exact QiF s W w y j h
theorem QgE (j o:Value) (x:Ag) (w:World) (h:x.1.data.toList=[]):
 Calls Tryz.prog 34 #[aggA x,o,j] w fun e w'=>e=.returned (aggV x.2)/\Below w.heap.size w w':=by
 have he:x.1.toList.isEmpty=true:=by rw[ByteArray.toList_eq,h];rfl
 clear h
 go_enter Tryz.func34,Tryz.ntmps34
 go_wp2
 refine bodyPost_ret (v:=aggV x.2) (by simp[results,Tryz.results34,go_sem]) rfl ⟨rfl,?_⟩
 exact((Below.refl _ _).alloc (Nat.le_refl _) _).alloc (by simp) _
theorem QgF (A D rc b o n c:Nat) (cs:List Cl) (r:List Vl) (x:Ag) (i:Nat) (w:World) (K:x.1.data.toList≠[]) (U:Qak cs x.1.data.toList=some i) (Z:i<r.length) (ai:r.length<=100)
 (N:cs.length=n) (M:n<=100) (hb:b<w.heap.size) (T:Qas w b o cs) (B:A<w.heap.size) (V:QaK w A D r):
 Calls Tryz.prog 34 #[aggA x,.slice (some ⟨b,o,none⟩) n c,.slice (some ⟨A,D,none⟩) r.length rc] w fun e w'=>e=.returned (aggV r[i])/\Below w.heap.size w w':=by
 have he:x.1.toList.isEmpty=false:=by
  rw[ByteArray.toList_eq]
  cases h:x.1.data.toList with
  |nil=>exact absurd h K
  |cons a q=>rfl
 obtain⟨W,I⟩:∃W,W=(w.alloc (.cells #[.string x.1,.int .i64 x.2.1,.int .i64 x.2.2.1,.string x.2.2.2] 26)).alloc (.cells #[.int .i64 0,.int .i64 0,.string ⟨#[]⟩] 24):=⟨_,rfl⟩
 have z:Below w.heap.size w W:=by rw[I];exact((Below.refl _ _).alloc (Nat.le_refl _) _).alloc (by simp) _
 have E:=Qdw b o n c cs x.1 W N M (by have:=z.size;omega) (T.below z hb)
 rw[show Qaq cs x.1.data.toList=(i:Int) by rw[Qaq,U]] at E
 rw[I] at E z
 have HP:=Hk E
 have O:=Hk z
 have J:=Hk (V i Z)
 clear K U N T V E z I
 go_enter Tryz.func34,Tryz.ntmps34
 go_wp2_with (go_at_call 19;refine HP.out.mono ?_;rintro e F ⟨rfl,j⟩;have y:=Qaa O.out j;have d0:=cK y B J.out.1;have d1:=cK y B J.out.2.1;have d2:=cK y B J.out.2.2;obtain⟨aj,ag⟩:=QbM j;have ah:w.heap.size+1<F.heap.size:=by(have:=j.size;simp at this;omega))
 have y:=Qaa O.out j
 have g0:F.cell? ⟨w.heap.size+1,0,none⟩=some (.int .i64 0):=(j.cell (p:=⟨w.heap.size+1,0,none⟩) (by simp)).trans (by simp)
 have g1:F.cell? ⟨w.heap.size+1,1,none⟩=some (.int .i64 0):=(j.cell (p:=⟨w.heap.size+1,1,none⟩) (by simp)).trans (by simp)
 have g2:F.cell? ⟨w.heap.size+1,2,none⟩=some (.string ⟨#[]⟩):=(j.cell (p:=⟨w.heap.size+1,2,none⟩) (by simp)).trans (by simp)
 refine bodyPost_ret (v:=aggV r[i]) (by simp[results,Tryz.results34,go_sem,g0,g1,g2]) rfl ⟨rfl,?_⟩
 exact((y.setCell (by show w.heap.size<=w.heap.size+1;omega) _).setCell (by show w.heap.size<=w.heap.size+1;omega) _).setCell (by show w.heap.size<=w.heap.size+1;omega) _
theorem QbE (q z:Value) (cs:List Cl) (r:List Vl) (x:Ag) (w:World) (U:Qav w z cs) (T:Qbk w q r) (O:cs.length<=100) (E:r.length=cs.length) (I:x.1.data.toList=[]\/∃i,Qak cs x.1.data.toList=some i):
 Calls Tryz.prog 34 #[aggA x,z,q] w fun e w'=>e=.returned (aggV (QaJ cs r x))/\Below w.heap.size w w':=by
 by_cases hx:x.1.data.toList=[]
 ·rw[QaJ,if_pos hx]
  exact QgE q z x w hx
 ·obtain⟨i,y⟩:=I.resolve_left hx
  have j:=Qaj y
  obtain⟨a,c,rfl,-,-,h⟩:=U
  obtain⟨V,K,rfl,-,A⟩:=T
  rcases h with h|⟨b,o,rfl,F,J⟩
  ·rw[h] at j;simp at j
  rcases A with A|⟨N,M,rfl,D,B⟩
  ·rw[A] at E;simp at E;omega
  have:=QgF N M K b o cs.length c cs r x i w hx y (by omega) (by omega) rfl O F J D B
  have e:QaJ cs r x=r[i]'(by omega):=by
   unfold QaJ
   rw[if_neg hx,y]
   show r[i]?.getD _=_
   rw[List.getElem?_eq_getElem (show i<r.length by omega)];rfl
  rw[e]
  exact this
theorem Qjy (op:ByteArray) (less j:Bool) (q:inS Qa3 op.data.toList=true) (o:less=true->j=false):
 Qd1 op.data.toList less j=if less=true then decide (op.data.toList∈[[60,62],[60],[60,61]]) else if j=true then decide (op.data.toList∈[[60,62],[62],[62,61]]) else decide (op.data.toList∈[[61],[60,61],[62,61]]):=by
 have:op.data.toList=[61]\/op.data.toList=[60,62]\/op.data.toList=[60]\/op.data.toList=[60,61]\/op.data.toList=[62]\/op.data.toList=[62,61]:=by
  simp[inS,Qa3] at q
  rcases q with h|h|h|h|h|h<;>simp[<-h]
 rcases this with h|h|h|h|h|h<;>rw[h]<;>cases less<;>cases j<;>first|rfl|(have:=o rfl;cases this)|decide
theorem Qjz (s:ByteArray) (w:World) (h:Env w) (j:s.size<=1000000):Calls Tryz.prog 21 #[.string s,.string ⟨#[61,32,60,61,32,62,61]⟩] w fun e w'=>e=.returned (.bool (decide (s.data.toList∈[[61],[60,61],[62,61]])))/\w'=w:=Qcs _ _ (by decide) (by decide) (by decide) s w h j
theorem QjA (s:ByteArray) (w:World) (h:Env w) (j:s.size<=1000000):Calls Tryz.prog 21 #[.string s,.string ⟨#[60,62,32,60,32,60,61]⟩] w fun e w'=>e=.returned (.bool (decide (s.data.toList∈[[60,62],[60],[60,61]])))/\w'=w:=Qcs _ _ (by decide) (by decide) (by decide) s w h j
theorem QjB (s:ByteArray) (w:World) (h:Env w) (j:s.size<=1000000):Calls Tryz.prog 21 #[.string s,.string ⟨#[60,62,32,62,32,62,61]⟩] w fun e w'=>e=.returned (.bool (decide (s.data.toList∈[[60,62],[62],[62,61]])))/\w'=w:=Qcs _ _ (by decide) (by decide) (by decide) s w h j
theorem Qh6 (a b:Vl) (w:World) (o:a.1=b.1) (j:a.2.2.size<=maxLen) (h:b.2.2.size<=maxLen):
 Calls Tryz.prog 59 #[aggV a,aggV b] w fun e w'=>e=.returned (.bool (Qa7 a b))/\Below w.heap.size w w':=by
 have:=Qjx a.1 a.2.1 a.2.2 b.2.1 b.2.2 w j h
 unfold Qa7 aggV
 rw[<-o]
 exact this
theorem Qfk (op:ByteArray) (a b:Vl) (w:World) (hE:Env w) (I:op.size<=1000000) (h6:inS Qa3 op.data.toList=true) (V:a.1=b.1) (U:a.2.2.size<=maxLen) (M:b.2.2.size<=maxLen):
 Calls Tryz.prog 33 #[aggV a,.string op,aggV b] w fun e w'=>e=.returned (.bool (Qd1 op.data.toList (Qa7 a b) (Qa7 b a)))/\Below w.heap.size w w':=by
 have N:Qa7 a b=true->Qa7 b a=false:=fun h=>Qgm h
 have q:=Hk (Qjy op (Qa7 a b) (Qa7 b a) h6 N)
 have h2:Below w.heap.size w ((w.alloc (.cells #[.int .i64 a.1,.int .i64 a.2.1,.string a.2.2] 24)).alloc (.cells #[.int .i64 b.1,.int .i64 b.2.1,.string b.2.2] 24)):=((Below.refl _ _).alloc (Nat.le_refl _) _).alloc (by simp) _
 have B:=Hk (fun W=>Qh6 a b W V U M)
 have E:=Hk (fun W=>Qh6 b a W V.symm M U)
 have T:=Hk (fun W (h:Below w.heap.size w W)=>hE.below h)
 have H2:=Hk h2
 clear h2 V U M h6 N hE
 cases g1:Qa7 a b
 ·rw[g1] at B q
  cases g2:Qa7 b a
  ·rw[g2] at E q
   have D:=Hk (show Qd1 op.data.toList false false=decide (op.data.toList∈[[61],[60,61],[62,61]]) from q.out)
   have A:=Hk (fun W hW=>Qjz op W hW I)
   clear q g1 g2
   cases g3:decide (op.data.toList∈[[61],[60,61],[62,61]])
   all_goals
    rw[g3] at D A
    clear g3
    go_enter Tryz.func33,Tryz.ntmps33
    go_wp2_with (go_at_call 59;fail)
    refine(B.out _).mono ?_
    rintro e Z ⟨rfl,j⟩
    obtain⟨K,J⟩:=QbM j
    go_wp2_with (go_at_call 59;fail)
    refine(E.out _).mono ?_
    rintro e O ⟨rfl,z⟩
    have y:=Hk (Qaa (Qaa H2.out j) z)
    clear K J j z
    go_wp2_with (go_at_call 21;refine(A.out _ (T.out _ y.out)).mono ?_;rintro e F ⟨rfl,o⟩;obtain rfl:O=F:=o.symm;clear o)
    go_ret
    exact⟨Qal D.out.symm,y.out⟩
  ·rw[g2] at E q
   have D:=Hk (show Qd1 op.data.toList false true=decide (op.data.toList∈[[60,62],[62],[62,61]]) from q.out)
   have A:=Hk (fun W hW=>QjB op W hW I)
   clear q g1 g2
   cases g3:decide (op.data.toList∈[[60,62],[62],[62,61]])
   all_goals
    rw[g3] at D A
    clear g3
    go_enter Tryz.func33,Tryz.ntmps33
    go_wp2_with (go_at_call 59;fail)
    refine(B.out _).mono ?_
    rintro e Z ⟨rfl,j⟩
    obtain⟨K,J⟩:=QbM j
    go_wp2_with (go_at_call 59;fail)
    refine(E.out _).mono ?_
    rintro e O ⟨rfl,z⟩
    have y:=Hk (Qaa (Qaa H2.out j) z)
    clear K J j z
    go_wp2_with (go_at_call 21;refine(A.out _ (T.out _ y.out)).mono ?_;rintro e F ⟨rfl,o⟩;obtain rfl:O=F:=o.symm;clear o)
    go_ret
    exact⟨Qal D.out.symm,y.out⟩
 ·rw[g1] at B q
  have D:=Hk (show Qd1 op.data.toList true (Qa7 b a)=decide (op.data.toList∈[[60,62],[60],[60,61]]) from q.out)
  have A:=Hk (fun W hW=>QjA op W hW I)
  clear q g1
  cases g3:decide (op.data.toList∈[[60,62],[60],[60,61]])
  all_goals
   rw[g3] at D A
   clear g3
   go_enter Tryz.func33,Tryz.ntmps33
   go_wp2_with (go_at_call 59;fail)
   refine(B.out _).mono ?_
   rintro e Z ⟨rfl,j⟩
   have y:=Hk (Qaa H2.out j)
   clear j
   go_wp2_with (go_at_call 21;refine(A.out _ (T.out _ y.out)).mono ?_;rintro e F ⟨rfl,o⟩;obtain rfl:Z=F:=o.symm;clear o)
   go_ret
   exact⟨Qal D.out.symm,y.out⟩
theorem QgG (j y:List UInt8):∀(o:List (List UInt8)),o≠[]->Lib.join (o++[y]) j=Lib.join o j++(j++y)
 |[],h=>absurd rfl h
 |[x],_=>by simp[Lib.join,List.intercalate]
 |x::z::r,_=>by
  have q:=QgG j y (z::r) (by simp)
  unfold Lib.join at q⊢
  have e:∀(a b:List UInt8) (l:List (List UInt8)),j.intercalate (a::b::l)=a++(j++j.intercalate (b::l)):=fun a b l=>by simp[List.intercalate,List.intersperse]
  rw[List.cons_append,List.cons_append,e,e,<-List.cons_append,q]
  simp
theorem QjC (r:List Vl) (k:Nat) (h:k<r.length):Qbb (r.take (k+1))=(if 0<k then Qbb (r.take k)++[32] else Qbb (r.take k))++Qf9 r[k]:=by
 unfold Qbb
 rw[List.take_succ_eq_append_getElem h,List.map_append]
 by_cases h0:0<k
 ·rw[if_pos h0,List.map_cons,List.map_nil,QgG _ _ _ (by
   intro e;rw[List.map_eq_nil_iff,List.take_eq_nil_iff] at e;rcases e with e|e;· omega
   ·rw[e] at h;simp at h),List.append_assoc]
 ·obtain rfl:k=0:=by omega
  simp[Lib.join,List.intercalate]
theorem QkK {r:List Vl} (j:∀x∈r,rvB x=true) (q:r.length<=100) (k:Nat):(Qbb (r.take k)).length<=100100:=by
 unfold Qbb
 refine Qg5 _ (by simp;omega) ?_
 intro x h
 rw[List.mem_map] at h
 obtain⟨y,o,rfl⟩:=h
 exact Qed (j y (List.mem_of_mem_take o))
theorem QlC {x:Vl} (h:rvB x=true):x.1=1\/x.1=2:=by
 have h':Qat x.1 x.2.1 x.2.2.data.toList=true:=h
 unfold Qat at h'
 split at h'
 ·left;assumption
 ·split at h'
  ·right;assumption
  ·cases h'
theorem Qe0 (x:Vl) (w:World) (h:rvB x=true) (z:Env w):
 Calls Tryz.prog 60 #[aggV x] w fun e w'=>e=.returned (.string ⟨(Qf9 x).toArray⟩)/\Below w.heap.size w w':=by
 have j:=QbQ (show Qat x.1 x.2.1 x.2.2.data.toList=true from h)
 have o:=Tryz.strconv_Itoa x.2.1 (by omega) (by omega) (w.alloc (.cells #[.int .i64 x.1,.int .i64 x.2.1,.string x.2.2] 24)) (z.below (Qab _ _)).pw
 have A:=Hk o
 have D:x.2.2.size<=16:=by have:=j.1;simpa using this
 rcases QlC h with g|g
 ·have B:(x.1==2)=false:=by rw[g];rfl
  have y:=Hk (show Qf9 x=Lib.itoa x.2.1 by unfold Qf9 QcL;rw[if_pos g])
  clear o j h z g
  go_enter Tryz.func60,Tryz.ntmps60
  go_wp2_with (go_at_call 86;refine A.out.mono ?_;rintro e E ⟨rfl,q,os,rfl⟩)
  go_ret
  rw[y.out]
  exact⟨rfl,Qaa (Qab _ _) (Qen _ _ _)⟩
 ·have B:(x.1==2)=true:=by rw[g];rfl
  have y:=Hk (show Qf9 x=39::(x.2.2.data.toList++[39]) by unfold Qf9 QcL;rw[if_neg (by rw[g];decide)])
  clear o j h z g A
  go_enter Tryz.func60,Tryz.ntmps60
  go_wp2
  go_ret
  exact⟨QfC (by rw[y.out];simp),Qab _ _⟩
theorem Qhp (b o n c:Nat) (r:List Vl) (w:World) (B:r.length=n) (I:b<w.heap.size) (A:QaK w b o r) (h6:n<=100) (j:∀x∈r,rvB x=true) (y:Env w):
 Calls Tryz.prog 36 #[.slice (some ⟨b,o,none⟩) n c] w fun e w'=>e=.returned (.string ⟨(Qbb r).toArray⟩)/\Below w.heap.size w w':=by
 have O:=Hk (Ai A (Ai j (Ai y B)))
 clear A j y B
 go_enter Tryz.func36,Tryz.ntmps36
 go_wp2
 go_loopw [3,8] (fun s i wr=>∃k:Nat,k<=n/\i=.int .i64 k/\s=.string ⟨(Qbb (r.take k)).toArray⟩/\Below w.heap.size w wr) (fun _ i _=>n-(intOf i).toNat)
 case atStart=>exact⟨0,Nat.zero_le _,rfl,rfl,Below.refl _ _⟩
 case round=>
  obtain⟨k,hk,rfl,rfl,h⟩:=hrel
  have E:=Hk h
  have V:=h.size
  by_cases Z:k<n
  ·obtain⟨A,j,y,B⟩:=O.out
   have hlt':k<r.length:=by omega
   obtain⟨K,M,N⟩:=A k hlt'
   have d0:=cK h I K
   have d1:=cK h I M
   have d2:=cK h I N
   have D:=Hk (fun W (T:Below wr.heap.size wr W)=>Qe0 r[k] W (j _ (List.getElem_mem hlt')) ((y.below h).below T))
   have q:=Hk (QjC r k hlt')
   have hl:=QkK j (by omega) k
   have aa:=Qed (j _ (List.getElem_mem hlt'))
   generalize r[k]=x at*
   generalize Qf9 x=vx at*
   generalize Qbb (r.take k)=tk at*
   clear h A j y K M N B
   by_cases h0:0<k
   ·have F:=Hk (show Qbb (r.take (k+1))=tk++[32]++vx by rw[q.out,if_pos h0])
    clear q
    have z1:(⟨tk.toArray⟩:ByteArray).size=tk.length:=by show tk.toArray.size=_;simp
    have z2:(⟨vx.toArray⟩:ByteArray).size=vx.length:=by show vx.toArray.size=_;simp
    go_wp2_with (go_at_call 60;refine(D.out _ (Qab _ _)).mono ?_;rintro e U ⟨rfl,z⟩)
    go_roundw
    case rel=>exact⟨k+1,by omega,by go_num,by rw[F.out];exact congrArg Value.string (Qe3 (by simp)),Qaa (Qad E.out _) z⟩
    case measure=>simp[intOf];omega
   ·have F:=Hk (show Qbb (r.take (k+1))=tk++vx by rw[q.out,if_neg h0])
    clear q
    go_wp2_with (go_at_call 60;refine(D.out _ (Qab _ _)).mono ?_;rintro e U ⟨rfl,z⟩)
    go_roundw
    case rel=>exact⟨k+1,by omega,by go_num,by rw[F.out];exact congrArg Value.string (Qe3 (by simp)),Qaa (Qad E.out _) z⟩
    case measure=>simp[intOf];omega
  ·have J:k=n:=by omega
   subst J
   go_wp2
   go_ret
   exact⟨by rw[List.take_of_length_le (by have:=O.out.2.2.2;omega)];rfl,E.out⟩
theorem QgH (b o c I N c' n E:Nat) (cs j:List Cl) (w:World) (K:cs.length=n) (D:j.length=E) (h8:n<=100) (am:E<=100) (hb:b<w.heap.size) (Z:I<w.heap.size) (hc:Qas w b o cs) (aa:Qas w I N j):
 Calls Tryz.prog 24 #[.slice (some ⟨b,o,none⟩) n c,.slice (some ⟨I,N,none⟩) E c'] w fun e w'=>∃t,e=.returned (.bool t)/\(t=true↔cs=j)/\Below w.heap.size w w':=by
 by_cases V:n=E
 ·subst V
  have M:=Hk (Ai K D)
  clear K D
  go_enter Tryz.func24,Tryz.ntmps24
  go_wp2
  go_loopw [13] (fun i wr=>∃k:Nat,k<=n/\i=.int .i64 k/\(∀q (h:q<cs.length) (h':q<j.length),q<k->cs[q]=j[q])/\Below w.heap.size w wr) (fun i _=>n-(intOf i).toNat)
  case atStart=>exact⟨0,Nat.zero_le _,rfl,fun q _ _ h=>absurd h (by omega),Below.refl _ _⟩
  case round=>
   obtain⟨k,hk,rfl,O,z⟩:=hrel
   have HA:=Hk O
   clear O
   by_cases hlt:k<n
   ·have ad:k<cs.length:=by have:=M.out.1;omega
    have hk2':k<j.length:=by have:=M.out.2;omega
    obtain⟨c1,c2⟩:=hc k ad
    have d1:=cK z hb c1
    have d2:=cK z hb c2
    obtain⟨c3,c4⟩:=aa k hk2'
    have d3:=cK z Z c3
    have d4:=cK z Z c4
    clear c1 c2 c3 c4
    obtain⟨x,hx⟩:∃x,cs[k]=x:=⟨_,rfl⟩
    obtain⟨y,hy⟩:∃y,j[k]=y:=⟨_,rfl⟩
    rw[hx] at d1 d2
    rw[hy] at d3 d4
    have A:=Hk (Ai hx hy)
    clear hx hy
    by_cases B:x.1.toList=y.1.toList
    ·by_cases J:x.2=y.2
     ·have U:x=y:=Prod.ext (Qji (by rw[ByteArray.toList_eq,ByteArray.toList_eq] at B;exact B)) J
      have HE:=Hk (show cs[k]=j[k] by rw[A.out.1,A.out.2];exact U)
      subst U
      clear B J
      go_wp2
      go_quiet (fail)
      go_wp2
      go_roundw
      case rel=>
       refine⟨k+1,by omega,by go_num,fun q h h' hq=>?_,below_drewN z _⟩
       rcases Nat.lt_or_ge q k with T|T
       ·exact HA.out q h h' T
       ·obtain rfl:q=k:=by omega
        exact HE.out
      case measure=>simp[intOf];omega
     ·have e2':(x.2==y.2)=false:=by simp[J]
      have e1':(x.1.toList==y.1.toList)=true:=by simp[B]
      have F:=Hk (show(false=true↔cs=j) from⟨nofun,fun h=>absurd (show x.2=y.2 by rw[<-A.out.1,<-A.out.2];simp only[h]) J⟩)
      clear B J
      go_wp2
      go_quiet (fail)
      go_wp2
      all_goals go_ret
      all_goals exact⟨false,rfl,F.out,below_drewN z _⟩
    ·have e1':(x.1.toList==y.1.toList)=false:=by simp[B]
     have F:=Hk (show(false=true↔cs=j) from⟨nofun,fun h=>absurd (show x.1.toList=y.1.toList by rw[<-A.out.1,<-A.out.2];simp only[h]) B⟩)
     clear B
     go_wp2
     go_quiet (fail)
     go_wp2
     all_goals go_ret
     all_goals exact⟨false,rfl,F.out,below_drewN z _⟩
   ·have HT:=Hk (show(true=true↔cs=j) from⟨fun _=>List.ext_getElem (by have:=M.out;omega) fun q hq hq'=>HA.out q hq hq' (by have:=M.out;omega),fun _=>rfl⟩)
    go_wp2
    go_ret
    exact Or.inr ⟨rfl,by have:=HT.out;simpa using this,z⟩
 ·have hnn':((n:Int) != (E:Int))=true:=by simp;omega
  have F:=Hk (show(false=true↔cs=j) from⟨nofun,fun h=>absurd (show n=E by rw[<-K,<-D,h]) V⟩)
  clear K D hc aa
  go_enter Tryz.func24,Tryz.ntmps24
  go_wp2
  go_ret
  exact⟨false,rfl,F.out,Below.refl _ _⟩
end Go.Proofs.YtofidnijfnhpaaaGreatDoor
