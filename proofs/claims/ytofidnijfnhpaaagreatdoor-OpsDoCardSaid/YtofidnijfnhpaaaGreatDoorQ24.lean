import Derived.Test.YtofidnijfnhpaaaGreatDoorQ01
import Derived.Test.YtofidnijfnhpaaaGreatDoorQ23
import Derived.Test.YtofidnijfnhpaaaGreatDoorQ21
set_option linter.unusedSimpArgs false
set_option linter.unusedVariables false
set_option linter.unusedSectionVars false
set_option maxRecDepth 1000000
set_option maxHeartbeats 16000000
namespace Go.Proofs.YtofidnijfnhpaaaGreatDoor
open Go.RowKit
theorem QfL (k n:Int) (s:ByteArray) (w:World) (M:s.size<=maxLen):
 Calls Tryz.prog 38 #[.agg #[.int .i64 k,.int .i64 n,.string s]] w fun e E=>e=.returned (.bool (Qat k n s.data.toList))/\Below w.heap.size w E:=by
 unfold maxLen at M
 by_cases hk:k=1
 ·subst hk
  by_cases hin: -1000000000<=n/\n<=1000000000
  ·have q:(decide (-1000000000<=n)&&decide (n<=1000000000))=true:=by simp[hin.1,hin.2]
   go_enter Tryz.func38,Tryz.ntmps38
   go_wp2_with (go_at_call 17;refine(Qcq _ _ _ _).mono ?_;rintro e E ⟨rfl,rfl⟩;rw[q])
   go_ret
   refine⟨Qal ?_,Qab _ _⟩
   simp[Qat,hin.1,hin.2,ByteArray.toList_eq]
  ·have q:(decide (-1000000000<=n)&&decide (n<=1000000000))=false:=by
    rw[Bool.and_eq_false_iff]
    simp only[decide_eq_false_iff_not]
    omega
   go_enter Tryz.func38,Tryz.ntmps38
   go_wp2_with (go_at_call 17;refine(Qcq _ _ _ _).mono ?_;rintro e E ⟨rfl,rfl⟩;rw[q])
   go_ret
   refine⟨Qal ?_,Qab _ _⟩
   unfold Qat
   rw[if_pos rfl,<-Bool.and_assoc,q]
   rfl
 have V:(k==1)=false:=by simp[hk]
 have O:Hid (∀j,(B:j<s.size)->pwI (s[j].toNat:Int)=false->Qat k n s.data.toList=false):=Hk fun j B hp=>by
  unfold Qat
  rw[if_neg hk]
  split
  ·unfold QbP
   rw[QdI pwI s j B hp,Bool.and_false,Bool.false_and]
  ·rfl
 go_enter Tryz.func38,Tryz.ntmps38
 go_wp2
 go_loop [19] (fun i=>∃j:Nat,j<=s.size/\i=.int .i64 j/\Qdj pwI (s.data.toList.take j)=true) (fun i=>s.size-(intOf i).toNat)
 case atStart=>exact⟨0,Nat.zero_le _,rfl,rfl⟩
 case round=>
  obtain⟨j,B,rfl,y⟩:=hrel
  have F:Hid (Qdj pwI (s.data.toList.take j)=true):=Hk y
  clear y
  by_cases hlt:j<s.size
  ·have h:pwI (s[j].toNat:Int)=(decide (32<=(s[j].toNat:Int))&&(decide ((s[j].toNat:Int)<=126)&&(s[j].toNat:Int) != 39)):=rfl
   cases hp:pwI (s[j].toNat:Int)
   ·have D:=Hk (O.out j hlt hp)
    rw[hp] at h
    clear hp
    by_cases a1:(s[j].toNat:Int)<32
    ·clear h
     go_wp2
     go_ret
     exact⟨Qal D.out.symm,Qab _ _⟩
    ·by_cases a2:126<(s[j].toNat:Int)
     ·clear h
      go_wp2
      go_ret
      exact⟨Qal D.out.symm,Qab _ _⟩
     ·have a3:(s[j].toNat:Int)=39:=by
       have K:decide (32<=(s[j].toNat:Int))=true:=decide_eq_true (by omega)
       have U:decide ((s[j].toNat:Int)<=126)=true:=decide_eq_true (by omega)
       rw[K,U,Bool.true_and,Bool.true_and] at h
       by_cases e3:(s[j].toNat:Int)=39
       ·exact e3
       ·have:((s[j].toNat:Int) != 39)=true:=by simpa using e3
        rw[this] at h
        cases h
      clear h a1 a2
      go_wp2
      go_ret
      exact⟨Qal D.out.symm,Qab _ _⟩
   ·have T:=Hk hp
    rw[hp] at h
    replace h:=h.symm
    simp only[Bool.and_eq_true,decide_eq_true_eq,bne_iff_ne] at h
    obtain⟨a1,a2,a3⟩:=h
    have a1':¬(s[j].toNat:Int)<32:=by omega
    have a2':¬126<(s[j].toNat:Int):=by omega
    have a3':((s[j].toNat:Int)==39)=false:=by simpa using a3
    clear hp a1 a2 a3
    obtain⟨c,N⟩:∃c:Int,(s[j].toNat:Int)=c:=⟨_,rfl⟩
    rw[N] at a1' a2' a3'
    go_wp2
    go_round
    case rel=>exact⟨j+1,by omega,by go_num,by rw[Qdl s j hlt,Qek,F.out,T.out];rfl⟩
    case measure=>simp[intOf];omega
  ·have o:Qdj pwI s.data.toList=true:=by have:=F.out;rw[List.take_of_length_le (by simp;omega)] at this;exact this
   have A:=Hk o
   have z:s.data.toList.length=s.size:=by simp
   have J:=Hk z
   clear o z
   by_cases h2:k=2
   ·subst h2
    by_cases h0:n=0
    ·subst h0
     go_wp2
     go_ret
     refine⟨Qal ?_,Qab _ _⟩
     unfold Qat QbP
     rw[A.out,J.out]
     simp
     omega
    ·have I:(n==0)=false:=by simpa using h0
     go_wp2
     go_ret
     refine⟨Qal ?_,Qab _ _⟩
     unfold Qat
     rw[if_neg (by decide),if_pos rfl,I,Bool.and_false]
   ·have Z:(k==2)=false:=by simpa using h2
    go_wp2
    go_ret
    refine⟨Qal ?_,Qab _ _⟩
    unfold Qat
    rw[if_neg hk,if_neg h2]
theorem QdP (code:Int) (w:World):
 Calls Tryz.prog 7 #[.int .i64 code] w fun e j=>e=.returned (.tuple #[.int .i64 (QaP code).1,.int .i64 (QaP code).2])/\j=w:=by
 by_cases h:1<=code/\code<=9
 ·have:code=1\/code=2\/code=3\/code=4\/code=5\/code=6\/code=7\/code=8\/code=9:=by omega
  clear h
  rcases this with h|h|h|h|h|h|h|h|h
  all_goals
   subst h
   go_enter Tryz.func7,Tryz.ntmps7
   go_wp2_with (go_at_call 17;refine(Qcq _ _ _ _).mono ?_;rintro e j ⟨rfl,rfl⟩)
   go_ret2
   exact⟨rfl,rfl⟩
 ·have A:¬(code=5):=by omega
  have z:¬(code=7):=by omega
  have q:¬(code=9):=by omega
  have o:QaP code=(0,0):=by
   unfold QaP
   rw[if_neg (by omega),if_neg q,if_neg (by omega)]
  have y:(decide (1<=code)&&decide (code<=9))=false:=by
   rw[Bool.and_eq_false_iff]
   simp only[decide_eq_false_iff_not]
   omega
  rw[o]
  clear h o
  go_enter Tryz.func7,Tryz.ntmps7
  go_wp2_with (go_at_call 17;refine(Qcq _ _ _ _).mono ?_;rintro e j ⟨rfl,rfl⟩;rw[y])
  go_ret2
  exact⟨rfl,rfl⟩
theorem Qcl (b o n c:Nat) (cs:List Cl) (x:Ag) (w:World) (E:cs.length=n) (O:n<=100) (T:b<w.heap.size) (D:Qas w b o cs) (Z:x.2.2.2.size<=maxLen):
 Calls Tryz.prog 22 #[aggA x,.slice (some ⟨b,o,none⟩) n c] w fun e w'=>e=.returned (.int .i64 (QaI cs x))/\Below w.heap.size w w':=by
 obtain⟨y,k,q,s⟩:=x
 by_cases h0:y.data.toList=[]
 ·have he:y.toList.isEmpty=true:=by rw[ByteArray.toList_eq,h0];rfl
  have z:QaI cs (y,k,q,s)=if rvB (k,q,s)=true then k else 0:=by unfold QaI;rw[if_pos h0]
  have F:=fun W=>QfL k q s W Z
  rw[show Qat k q s.data.toList=rvB (k,q,s) from rfl] at F
  rw[z]
  clear z h0 E D
  cases g:rvB (k,q,s)
  all_goals
   rw[g] at F
   have HR:=Hk F
   clear F g
   cases z1:(k==0)<;>cases z2:(q==0)<;>cases z3:s.toList.isEmpty
   all_goals
    go_enter Tryz.func22,Tryz.ntmps22
    go_wp2_with (go_at_call 38;refine(HR.out _).mono ?_;rintro e U ⟨rfl,j⟩;obtain⟨M,J⟩:=QbM j)
    go_ret
    exact⟨rfl,Qaa (Qab _ _) j⟩
 ·have he:y.toList.isEmpty=false:=by
   rw[ByteArray.toList_eq]
   cases h:y.data.toList with
   |nil=>exact absurd h h0
   |cons a q=>rfl
  by_cases hz:k=0/\q=0/\s.data.toList=[]
  ·obtain⟨rfl,rfl,A⟩:=hz
   have ad:s.toList.isEmpty=true:=by rw[ByteArray.toList_eq,A];rfl
   have B:=fun W (V:Below w.heap.size w W)=>Qdw b o n c cs y W E O (by have:=V.size;omega) (D.below V T)
   cases g:Qak cs y.data.toList with
   |none=>
    have z:QaI cs (y,0,0,s)=0:=by unfold QaI;rw[if_neg h0,g]
    rw[show Qaq cs y.data.toList= -1 by rw[Qaq,g]] at B
    have I:=Hk B
    rw[z]
    clear B z g h0 E D A
    go_enter Tryz.func22,Tryz.ntmps22
    go_wp2_with (go_at_call 19;refine(I.out _ (Qab _ _)).mono ?_;rintro e U ⟨rfl,j⟩;obtain⟨M,J⟩:=QbM j)
    go_ret
    exact⟨rfl,Qaa (Qab _ _) j⟩
   |some i=>
    have N:=Qaj g
    have z:QaI cs (y,0,0,s)=cs[i].2:=by
     unfold QaI;rw[if_neg h0,g]
     simp only[List.getElem?_eq_getElem N,Option.getD_some,A,and_self,if_true]
    rw[show Qaq cs y.data.toList=(i:Int) by rw[Qaq,g]] at B
    have I:=Hk B
    have d2:=(D i N).2
    have ac:(i:Int)<(n:Int):=by omega
    have hI:(0:Int)<=(i:Int):=by omega
    rw[z]
    have HC:=Hk (fun W (h:Below w.heap.size w W)=>(h.cell (p:=⟨b,o+i*2+1,none⟩) T).trans d2)
    clear B z g h0 E D A d2
    go_enter Tryz.func22,Tryz.ntmps22
    go_wp2_with (go_at_call 19;first|(refine(I.out _ (Qab _ _)).mono ?_;rintro e U ⟨rfl,j⟩;obtain⟨M,J⟩:=QbM j)|(refine(I.out _ (Qaa (Qab _ _) j)).mono ?_;rintro e w2 ⟨rfl,K⟩;have d2:=HC.out _ (Qaa (Qaa (Qab _ _) j) K)))
    go_ret
    exact⟨rfl,Qaa (Qaa (Qab _ _) j) K⟩
  ·have z:QaI cs (y,k,q,s)=0:=by
    unfold QaI;rw[if_neg h0]
    cases g:Qak cs y.data.toList with
    |none=>rfl
    |some i=>simp only[if_neg hz]
   rw[z]
   clear z h0 E D
   cases z1:(k==0)
   ·clear hz
    go_enter Tryz.func22,Tryz.ntmps22
    go_wp2
    go_ret
    exact⟨rfl,Qab _ _⟩
   ·cases z2:(q==0)
    ·clear hz
     go_enter Tryz.func22,Tryz.ntmps22
     go_wp2
     go_ret
     exact⟨rfl,Qab _ _⟩
    ·have z3:s.toList.isEmpty=false:=by
      rw[ByteArray.toList_eq]
      cases h:s.data.toList with
      |nil=>exact absurd ⟨by simpa using z1,by simpa using z2,h⟩ hz
      |cons a q=>rfl
     clear hz
     go_enter Tryz.func22,Tryz.ntmps22
     go_wp2
     go_ret
     exact⟨rfl,Qab _ _⟩
end Go.Proofs.YtofidnijfnhpaaaGreatDoor
namespace Go.Proofs.YtofidnijfnhpaaaGreatDoor
open Go.RowKit Go.WideMaps Go.Maps
def Qbg (cs:List Cl):List (List UInt8):=cs.map fun c=>c.1.data.toList
theorem Qd7 (cs:List Cl) (h:List UInt8):(Qbg cs).contains h=Qbw cs h:=by
 unfold Qbg Qbw
 induction cs with
 |nil=>rfl
 |cons c r ih=>
  rw[List.map_cons,List.contains_cons,ih,List.any_cons]
  congr 1
  rw[Bool.eq_iff_iff,beq_iff_eq,beq_iff_eq]
  exact eq_comm
theorem QiD (cs:List Cl) (k:Nat) (h:k<cs.length):Qbg (cs.take (k+1))=Qbg (cs.take k)++[cs[k].1.data.toList]:=by
 unfold Qbg
 rw[List.take_succ_eq_append_getElem h,List.map_append];rfl
theorem QlA (n:Int):(decide (1<=n)&&decide (n<=2))=Qfz n:=by
 unfold Qfz
 rw[Bool.eq_iff_iff]
 simp
 omega
theorem QfM (b o n c:Nat) (cs:List Cl) (w:World) (hn:cs.length=n) (aE:n<=100) (hb:b<w.heap.size) (hc:Qas w b o cs) (hs:∀x∈cs,x.1.size<=1000):
 Calls Tryz.prog 6 #[.slice (some ⟨b,o,none⟩) n c] w fun e M=>e=.returned (.bool (Qah cs))/\Below w.heap.size w M:=by
 have aK:=@run_makeMap Tryz.prog
 have HN:=Hk hn
 have HS:=Hk hs
 have ah:=Hk hc
 clear hn hs hc
 go_enter Tryz.func6,Tryz.ntmps6
 go_wp2
 go_loopw [9] (fun i wr=>∃(k m:Nat) (D:DataW Unit),k<=n/\i=.int .i64 k/\m<=k/\wr.ownsMap Tryz.prog 9 (plainElem Tryz.prog 3) w.heap.size m D/\Met D k (Qbg (cs.take k))/\Qca [] cs=Qca (cs.take k) (cs.drop k)/\Below w.heap.size w wr) (fun i _=>n-(intOf i).toNat)
 case atStart=>exact⟨0,0,.map [],Nat.zero_le _,rfl,Nat.le_refl _,World.ownsMap_made _ _ _ _,fun t=>⟨0,rfl,by omega,by omega,by simp[Qbg]⟩,rfl,Qab _ _⟩
 case round=>
  obtain⟨k,m,D,hk,rfl,aP,E,z,B,A⟩:=hrel
  have aL:=A.size
  have aJ:=E.lt
  by_cases hlt:k<n
  ·have K:k<cs.length:=by have:=HN.out;omega
   have az:=A.cell (p:=⟨b,o+k*2,none⟩) hb
   have ay:=A.cell (p:=⟨b,o+k*2+1,none⟩) hb
   rw[(ah.out k K).1] at az
   rw[(ah.out k K).2] at ay
   have Z:=Hk (Qem cs k K)
   have aa:=Hk (QiD cs k K)
   have hsz:=HS.out _ (List.getElem_mem K)
   have O:keyOf Tryz.prog 9 (.string cs[k].1)=some (.string cs[k].1.data.toList):=keyOf_string_mk (s:=cs[k].1) Tryz.underlying9 (by unfold maxLen;omega)
   obtain⟨ct,F,ai,ak,j⟩:=z cs[k].1.data.toList
   rw[Qd7] at j
   have aO:=Hk (Qd7 (cs.take k) cs[k].1.data.toList)
   have hD:IsMap D:=E.isMap
   have I:=Hk (fun W=>Qjw cs[k].1 W (by unfold maxLen;omega))
   have N:=Hk (fun W=>Qcq cs[k].2 1 2 W)
   rw[QlA] at N
   generalize cs[k].1=nm at*
   generalize cs[k].2=kd at*
   have ab:=Qbn E (Qab wr (.cells #[.string nm,.int .i64 kd] 56))
   obtain⟨c1,ag,T,-⟩:=ab.lookup_int Qi7 Tryz.underlying58 Tryz.underlying3 (Qhm _) O
   obtain rfl:c1=ct:=by rw[F] at T;injection T with h;injection h with _ h;exact h.symm
   have HM:=Hk ab
   have HX:=Hk (Ai z (Ai B (Ai A (Ai hD (Ai F (Ai ai (Ai ak j)))))))
   have aB:(k:Int)<=100:=by omega
   clear z B A hD F T j ab E hsz
   go_wp2_with (at_mapUpdate;refine wpList_mapUpdate_own _ rfl _ _ _ 58 rfl 9 3 Qi7 Tryz.underlying58 _ w.heap.size m D rfl HM.out (by unfold maxLen;omega) _ _ (.string nm.data.toList) rfl rfl O _ [] (plainElem_int Tryz.underlying3 (QgB (by omega) (by omega))) ?_)
   intro w2 J y
   have aM:=y.size
   have e1:w2.cell? ⟨wr.heap.size,0,none⟩=some (.string nm):=y.cell (a:=⟨wr.heap.size,0,none⟩) (by simp) (by intro e;injection e with e;have e':wr.heap.size=w.heap.size:=e;omega)
   have e2:w2.cell? ⟨wr.heap.size,1,none⟩=some (.int .i64 kd):=y.cell (a:=⟨wr.heap.size,1,none⟩) (by simp) (by intro e;injection e with e;have e':wr.heap.size=w.heap.size:=e;omega)
   have aj:Below w.heap.size w w2:=(Qaa HX.out.2.2.1 (Qab _ _)).grown y (by simp;omega) (fun q hq=>by cases hq;exact Nat.le_refl _)
   have al:=J
   obtain⟨c2,aA,U,-⟩:=J.lookup_int Qi7 Tryz.underlying58 Tryz.underlying3 (Qhm _) O
   obtain rfl:c2=c1+1:=by
    rw[atKey_put_same HX.out.2.2.2.1 (by trivial)] at U;injection U with h;injection h with _ h;exact h.symm
   have HB:=Hk (Ai al aj)
   obtain⟨z,B,A,hD,F,-,-,j⟩:=HX.out
   have aw:=Hk (Qdu (o:=Qbg (cs.take k)++[nm.data.toList]) hD z F ai ak (by simp) (fun t ht=>by simp[ht]))
   have V:=Hk B
   clear J y aj al U HM HX z B A hD F ag
   cases g1:Qd9 nm.data.toList
   ·rw[g1] at I
    have HF:=Hk (show Qah cs=false by unfold Qah;rw[V.out,Z.out,g1];simp)
    clear g1 j
    go_wp2_with (go_at_call 16;refine(I.out _).mono ?_;rintro e M ⟨rfl,rfl⟩)
    go_ret
    exact⟨Qal HF.out.symm,HB.out.2⟩
   ·rw[g1] at I
    cases g3:Qbw (cs.take k) nm.data.toList
    ·obtain rfl:c1=0:=j.2 g3
     cases g2:Qfz kd
     ·rw[g2] at N
      have HF:=Hk (show Qah cs=false by unfold Qah;rw[V.out,Z.out,g2];simp)
      clear g1 g2 g3 j
      go_wp2_with (first|(go_at_call 16;refine(I.out _).mono ?_;rintro e M ⟨rfl,rfl⟩)|(go_at_call 17;refine(N.out _).mono ?_;rintro e M ⟨rfl,rfl⟩))
      go_ret
      exact⟨Qal HF.out.symm,HB.out.2⟩
     ·rw[g2] at N
      have HG:=Hk (show Qca [] cs=Qca (cs.take (k+1)) (cs.drop (k+1)) by rw[V.out,Z.out,g1,g2,g3];rfl)
      clear g1 g2 g3 j
      go_wp2_with (first|(go_at_call 16;refine(I.out _).mono ?_;rintro e M ⟨rfl,rfl⟩)|(go_at_call 17;refine(N.out _).mono ?_;rintro e M ⟨rfl,rfl⟩))
      go_roundw
      case rel=>exact⟨k+1,m+1,_,by omega,by go_num,by omega,HB.out.1,by rw[aa.out];exact aw.out,HG.out,HB.out.2⟩
      case measure=>simp[intOf];omega
    ·have aN:(1:Int)<c1+1:=by
      have:c1≠0:=fun h=>by rw[j.1 h] at g3;cases g3
      omega
     have HF:=Hk (show Qah cs=false by unfold Qah;rw[V.out,Z.out,g3];simp)
     clear g1 g3 j
     go_wp2_with (go_at_call 16;refine(I.out _).mono ?_;rintro e M ⟨rfl,rfl⟩)
     go_ret
     exact⟨Qal HF.out.symm,HB.out.2⟩
  ·have ap:k=n:=by omega
   subst ap
   have HV:=Hk (show Qah cs=(decide (1<=(k:Int))&&decide ((k:Int)<=6)) by
    unfold Qah
    rw[B,List.drop_eq_nil_of_le (by have:=HN.out;omega),HN.out]
    show(decide (1<=k)&&(decide (k<=6)&&true))=_
    rw[Bool.and_true,Bool.eq_iff_iff]
    simp
    omega)
   have HI:=Hk (fun W=>Qcq (k:Int) 1 6 W)
   have aa:=Hk A
   clear B z E A
   go_wp2_with (go_at_call 17;refine(HI.out _).mono ?_;rintro e M ⟨rfl,rfl⟩)
   go_ret
   exact⟨Qal (by rw[HV.out]),aa.out⟩
end Go.Proofs.YtofidnijfnhpaaaGreatDoor
namespace Go.Proofs.YtofidnijfnhpaaaGreatDoor
open Go.RowKit Go.WideMaps Go.Maps
theorem Qmb (x:Vl) (w:World) (h:x.2.2.size<=maxLen):
 Calls Tryz.prog 38 #[.agg #[.int .i64 x.1,.int .i64 x.2.1,.string x.2.2]] w fun e w'=>e=.returned (.bool (rvB x))/\Below w.heap.size w w':=QfL _ _ _ _ h
theorem Qda (v:Value) (cs:List Cl) (w:World) (h:Qav w v cs) (j:cs.length<=100) (q:∀x∈cs,x.1.size<=1000):
 Calls Tryz.prog 6 #[v] w fun e z=>e=.returned (.bool (Qah cs))/\Below w.heap.size w z:=by
 obtain⟨a,c,rfl,E,-,h⟩:=h
 rcases h with h|⟨b,o,rfl,D,A⟩
 ·subst h
  have F:=@run_makeMap Tryz.prog
  have B:=Hk (fun W=>Qcq 0 1 6 W)
  clear q E j
  show Calls _ _ #[.slice a 0 c] _ _
  go_enter Tryz.func6,Tryz.ntmps6
  go_wp2
  go_loopw [9] (fun i wr=>i=.int .i64 0/\Below w.heap.size w wr) (fun _ _=>0)
  case atStart=>exact⟨rfl,Qab _ _⟩
  case round=>
   obtain⟨rfl,y⟩:=hrel
   go_wp2_with (go_at_call 17;refine(B.out _).mono ?_;rintro e z ⟨rfl,rfl⟩)
   go_ret
   exact⟨Qal rfl,y⟩
 ·exact QfM b o cs.length c cs w rfl j D A q
theorem QdQ (vc vr:Value) (cs:List Cl) (rs:List (List Vl)) (w:World) (hc:Qav w vc cs) (hr:QaC w vr rs) (af:cs.length<=100) (K:∀x∈cs,x.1.size<=1000):
 Calls Tryz.prog 30 #[.agg #[vc,vr]] w fun e w'=>e=.returned (.bool (Qan cs rs))/\Below w.heap.size w w':=by
 have T:=hc.below (Qab w (.cells #[vc,vr] 36))
 have ah:=hr.below (Qab w (.cells #[vc,vr] 36))
 obtain⟨a,c,rfl,-,-,-⟩:=hc
 obtain⟨a',c',rfl,-⟩:=hr
 have Z:=Qda _ cs _ T af K
 clear af K
 cases g1:Qah cs
 ·have HB:Hid (Qan cs rs=false):=by show Qan cs rs=false;simp[Qan,g1]
  simp only[g1] at Z
  have HR:=Hk Z
  clear Z T ah
  go_enter Tryz.func30,Tryz.ntmps30
  go_wp2_with (go_at_call 6;refine HR.out.mono ?_;rintro e w' ⟨rfl,z⟩)
  go_ret
  exact⟨Qal HB.out.symm,(Qab _ _).trans (z.mono (by simp))⟩
 ·obtain⟨h1,h6⟩:=Qcw g1
  simp only[g1] at Z
  have HR:=Hk Z
  clear Z
  by_cases h60:rs.length<=60
  ·have HB:Hid (Qan cs rs=rs.all fun r=>Qbm r cs):=by show _=_;simp[Qan,g1,h60]
   have aY:¬((60:Int)<(rs.length:Int)):=by omega
   obtain⟨B,J,rfl,aT,ai⟩:∃B J,a=some ⟨B,J,none⟩/\B<(w.alloc (.cells #[.slice a cs.length c,.slice a' rs.length c'] 36)).heap.size/\Qas (w.alloc (.cells #[.slice a cs.length c,.slice a' rs.length c'] 36)) B J cs:=by
    obtain⟨a2,c2,e2,-,-,h⟩:=T
    simp only[Value.slice.injEq] at e2
    obtain⟨rfl,-,rfl⟩:=e2
    rcases h with h|⟨b,o,rfl,hl,y⟩
    ·rw[h] at h1;simp at h1
    ·exact⟨b,o,rfl,hl,y⟩
   have a4:=Hk ai
   have aX:=Hk ah
   generalize hn:cs.length=n at*
   generalize hm:rs.length=m at*
   have HN:=Hk hn
   have HM:=Hk hm
   clear hn hm ai ah T
   go_enter Tryz.func30,Tryz.ntmps30
   go_wp2_with (go_at_call 6;refine HR.out.mono ?_;rintro e E ⟨rfl,z⟩;obtain⟨al,aC⟩:=QbM z)
   have hz:w.heap.size+1<=E.heap.size:=by have:=z.size;simpa using this
   have aJ:B<E.heap.size:=by have:=z.size;omega
   have ar:=Hk z
   have ax:=Hk (show E.cell? ⟨w.heap.size,0,none⟩=some (.slice (some ⟨B,J,none⟩) n c) from(al _ _ (by simp)).trans (by simp))
   have aZ:=Hk (a4.out.below z aT)
   have aL:=Hk (aX.out.below z)
   clear z al aC
   go_loopw [20] (fun i wr=>∃k:Nat,k<=m/\i=.int .i64 k/\(rs.take k).all (fun r=>Qbm r cs)=true/\Below E.heap.size E wr) (fun i _=>m-(intOf i).toNat)
   case atStart=>exact⟨0,Nat.zero_le _,rfl,rfl,Below.refl _ _⟩
   case round=>
    obtain⟨k,hk,rfl,N,j⟩:=hrel
    have HA:=Hk N
    clear N
    have t1:wr.cell? ⟨w.heap.size,0,none⟩=some (.slice (some ⟨B,J,none⟩) n c):=cK j (by exact hz) ax.out
    by_cases hlt:k<m
    ·have F:k<rs.length:=by have:=HM.out;omega
     obtain⟨a2,c2,e2,y⟩:=aL.out
     rcases y with y|⟨rb,ro,rfl,a5,y⟩
     ·rw[y] at F;simp at F
     ·simp only[Value.slice.injEq] at e2
      obtain⟨rfl,-,rfl⟩:=e2
      obtain⟨u,hu,D⟩:=y k F
      have hu':=cK j a5 hu
      have aB:∀wi,Below E.heap.size E wi->Below w.heap.size w wi:=fun wi h=>(Qab _ _).trans ((ar.out.mono (by simp)).trans (h.mono (by omega)))
      have ad:=Hk aB
      obtain⟨a3,c3,rfl,aw,D⟩:=D
      have aW:=Hk (fun(h:Qbm rs[k] cs=true)=>QhR (p:=fun r=>Qbm r cs) F HA.out h)
      have ab:=Hk (fun(h:Qbm rs[k] cs=false)=>HB.out.trans (Qge (p:=fun r=>Qbm r cs) F h))
      have bh:=j.size
      have aA:=Hk j
      clear hu y aB j
      generalize rs[k]=r at*
      by_cases hln:r.length=n
      ·rcases D with D|⟨vb,vo,rfl,aj,ae⟩
       ·rw[D] at hln;simp at hln;omega
       ·rw[hln] at hu'
        have au:=Hk hln
        have HV:=Hk ae
        have aN:=Hk aw
        clear hln ae aw
        go_wp2
        go_loopw [32] (fun i wi=>∃q:Nat,q<=n/\i=.int .i64 q/\Qbm r cs=Qbm (r.drop q) (cs.drop q)/\Below E.heap.size E wi) (fun i _=>n-(intOf i).toNat)
        case atStart=>exact⟨0,Nat.zero_le _,rfl,rfl,aA.out⟩
        case round=>
         obtain⟨q,hq,rfl,N,j⟩:=hrel
         have V:=Hk N
         clear N
         by_cases hqt:q<n
         ·have ac:q<r.length:=by have:=au.out;omega
          have ay:q<cs.length:=by have:=HN.out;omega
          obtain⟨c1,av,az⟩:=HV.out q ac
          have d1:=cK j aj c1
          have d2:=cK j aj av
          have d3:=cK j aj az
          have d5:=(j.cell (p:=⟨B,J+q*2+1,none⟩) aJ).trans (aZ.out q ay).2
          have d6:=cK j (by exact hz) ax.out
          clear c1 av az
          have bi:=j.size
          have aR:r[q].2.2.size<=maxLen:=aN.out _ (List.getElem_mem ac)
          have HS:=Hk (Qe4 r cs q ac ay)
          generalize r[q]=x at*
          generalize cs[q].2=kd at*
          have k1:=cell_regrown (w:=wr.alloc (.cells #[.int .i64 x.1,.int .i64 x.2.1,.string x.2.2] 24)) (a:=⟨wr.heap.size,0,none⟩) (v:=.int .i64 x.1) (by simp)
          have k2:=cell_regrown (w:=wr.alloc (.cells #[.int .i64 x.1,.int .i64 x.2.1,.string x.2.2] 24)) (a:=⟨wr.heap.size,1,none⟩) (v:=.int .i64 x.2.1) (by simp)
          have k3:=cell_regrown (w:=wr.alloc (.cells #[.int .i64 x.1,.int .i64 x.2.1,.string x.2.2] 24)) (a:=⟨wr.heap.size,2,none⟩) (v:=.string x.2.2) (by simp)
          have k5:=cell_regrown (w:=wr.alloc (.cells #[.int .i64 x.1,.int .i64 x.2.1,.string x.2.2] 24)) (a:=⟨B,J+q*2+1,none⟩) (v:=.int .i64 kd) (by rw[World.cell?_alloc_past _ _ _ (show B<wr.heap.size by omega)];exact d5)
          have k6:=cell_regrown (w:=wr.alloc (.cells #[.int .i64 x.1,.int .i64 x.2.1,.string x.2.2] 24)) (a:=⟨w.heap.size,0,none⟩) (v:=.slice (some ⟨B,J,none⟩) n c) (by rw[World.cell?_alloc_past _ _ _ (show w.heap.size<wr.heap.size by omega)];exact d6)
          have M:∀d os,_:=fun d os=>Calls.regrown_of (Qmb x (Sort.grow (redrawn (wr.alloc (.cells #[.int .i64 x.1,.int .i64 x.2.1,.string x.2.2] 24)) d) os) aR)
          have ak:=Hk (fun dq U=>j.trans ((Qab wr (.cells #[.int .i64 x.1,.int .i64 x.2.1,.string x.2.2] 24)).mono j.size|>.trans ((below_regrown _ dq U).mono (by simp;have:=j.size;omega))))
          clear j
          cases g2:rvB x
          ·have O:=Hk (ab.out (by rw[V.out,HS.out,g2];simp))
           simp only[g2] at M
           clear g2
           go_wp2
           refine wp_region_quiet_below (by kernel_rfl) (by kernel_rfl) ?_
           repeat(any_goals(first|go_big_quiet_step (exact M _ _)|quiet_step (exact M _ _)))
           refine wpQuiet_nil ?_
           intro _ I
           obtain⟨⟨dq,U⟩,A⟩:=I
           subst A
           go_wp2
           go_ret
           exact⟨Qal O.out.symm,ad.out _ (ak.out _ _)⟩
          ·simp only[g2] at M
           cases g1:(x.1 != kd)
           ·have HG:=Hk (show Qbm r cs=Qbm (r.drop (q+1)) (cs.drop (q+1)) by
             have e:(x.1==kd)=true:=by simpa using g1
             rw[V.out,HS.out,g2,e];rfl)
            clear g2
            go_wp2
            refine wp_region_quiet_below (by kernel_rfl) (by kernel_rfl) ?_
            repeat(any_goals(first|go_big_quiet_step (exact M _ _)|quiet_step (exact M _ _)))
            refine wpQuiet_nil ?_
            intro _ I
            obtain⟨⟨dq,U⟩,A⟩:=I
            subst A
            go_wp2
            go_roundw
            case rel=>exact⟨q+1,by omega,by go_num,HG.out,ak.out _ _⟩
            case measure=>simp[intOf];omega
           ·have O:=Hk (ab.out (by
             have e:(x.1==kd)=false:=by simpa using g1
             rw[V.out,HS.out,e];simp))
            clear g2
            go_wp2
            refine wp_region_quiet_below (by kernel_rfl) (by kernel_rfl) ?_
            repeat(any_goals(first|go_big_quiet_step (exact M _ _)|quiet_step (exact M _ _)))
            refine wpQuiet_nil ?_
            intro _ I
            obtain⟨⟨dq,U⟩,A⟩:=I
            subst A
            go_wp2
            go_ret
            exact⟨Qal O.out.symm,ad.out _ (ak.out _ _)⟩
         ·have HG:=Hk (aW.out (by rw[V.out,List.drop_eq_nil_of_le (by have:=au.out;omega),List.drop_eq_nil_of_le (by have:=HN.out;omega)];rfl))
          go_wp2
          go_roundw
          case rel=>exact⟨k+1,by omega,by go_num,HG.out,j⟩
          case measure=>simp[intOf];omega
      ·have bj:((r.length:Int) != (n:Int))=true:=by simp;omega
       have O:=Hk (ab.out (Qc2 r cs (by rw[HN.out];exact hln)))
       go_wp2
       go_ret
       exact⟨Qal O.out.symm,ad.out _ aA.out⟩
    ·have O:=Hk (show Qan cs rs=true by have:=HA.out;rw[List.take_of_length_le (by have:=HM.out;omega)] at this;rw[HB.out];exact this)
     go_wp2
     go_ret
     exact⟨Qal O.out.symm,(Qab _ _).trans ((ar.out.mono (by simp)).trans (j.mono (by omega)))⟩
  ·have HB:Hid (Qan cs rs=false):=by show _=_;simp[Qan,h60]
   have aY:(60:Int)<(rs.length:Int):=by omega
   go_enter Tryz.func30,Tryz.ntmps30
   go_wp2_with (go_at_call 6;refine HR.out.mono ?_;rintro e E ⟨rfl,z⟩;obtain⟨al,aC⟩:=QbM z)
   go_ret
   exact⟨Qal HB.out.symm,(Qab _ _).trans (z.mono (by simp))⟩
end Go.Proofs.YtofidnijfnhpaaaGreatDoor
