import Derived.Test.YtofidnijfnhpaaaGreatDoorQ01
import Derived.Test.YtofidnijfnhpaaaGreatDoorQ45
import Derived.Test.YtofidnijfnhpaaaGreatDoorQ46
import Derived.Test.YtofidnijfnhpaaaGreatDoorQ47
import Derived.Test.YtofidnijfnhpaaaGreatDoorQ49
set_option linter.unusedSimpArgs false
set_option linter.unusedVariables false
set_option linter.unusedSectionVars false
set_option maxRecDepth 1000000
set_option maxHeartbeats 16000000
namespace Go.Proofs.YtofidnijfnhpaaaGreatDoor
open Go.RowKit
def Qmi (ts:List Tb):Prop:=ts.length<=2/\∀t∈ts,t.1.length<=maxLen/\t.2.length<=maxLen/\∀r∈t.2,r.length<=maxLen
theorem QeW {w:World} {B:Nat} {e:TypeId} {z n:Nat} {v:Value} {j:List Value} (h:w.ownsRow B e z v n j):n<=maxLen:=by
 obtain⟨-,⟨-,h⟩|⟨g,o,q,-,-,-,y,A,-⟩⟩:=h
 ·omega
 ·omega
theorem QbR.lens {w:World} {B g:Nat} {ts:List Tb} (h:QbR w B g ts) (y:ts.length<=2):Qmi ts:=⟨y,fun t ht=>by
 obtain⟨k,z,rfl⟩:=List.mem_iff_getElem.1 ht
 obtain⟨F,E,-,-,D,us,A,o⟩:=h k z
 refine⟨QeW D.1,QeW A,fun r hm=>?_⟩
 obtain⟨q,j,rfl⟩:=List.mem_iff_getElem.1 hm
 exact QeW (o.2 q (by rw[o.1];exact j) j).1⟩
def DoP (e:Ending) (w':World) (B:Nat) (no:Int) (ts:List Tb):Prop:=(no≠0/\e=.returned (.tuple #[.slice none 0 0,Qbp no]))\/(no=0/\∃g c,e=.returned (.tuple #[.slice (some ⟨g,0,none⟩) ts.length c,.nilIface])/\B<=g/\g<w'.heap.size/\Qa0 w' g 0 ts/\Qmi ts)
structure DoBoth (w:World) (va:Option Addr) (n tcap:Nat) (j:Jb) (no:Int) (ts:List Tb):Prop where
 ref:∀W,Below w.heap.size w W->Calls Tryz.prog 13 #[.agg j.cells,.slice va n tcap] W fun e w'=>Qbf e w' W.heap.size no ts/\Below W.heap.size W w'
 ops:∀W,Below w.heap.size w W->Calls Tryz.prog 14 #[.agg j.cells,.slice va n tcap] W fun e w'=>DoP e w' W.heap.size no ts/\Below W.heap.size W w'
def Qf2 (w:World) (b o:Nat) (ts:List Tb):Prop:=∀(j:Nat) (h:j<ts.length),∃vc vr,w.cell? ⟨b,o+j*2,none⟩=some vc/\w.cell? ⟨b,o+j*2+1,none⟩=some vr/\Qav w vc ts[j].1/\QcS w vr ts[j].2/\QfN vr
theorem Qf2.is {w:World} {b o:Nat} {ts:List Tb} (h:Qf2 w b o ts):Qa0 w b o ts:=fun j hj=>by
 obtain⟨z,q,A,D,y,B,-⟩:=h j hj
 exact⟨z,q,A,D,y,B.is⟩
theorem Qf2.below {w z:World} {b o:Nat} {ts:List Tb} (h:Qf2 w b o ts) (q:Below w.heap.size w z) (y:b<w.heap.size):Qf2 z b o ts:=fun j hj=>by
 obtain⟨E,A,F,J,D,I,B⟩:=h j hj
 exact⟨E,A,cK q y F,cK q y J,D.below q,I.below q,B⟩
structure Given (w:World) (tb to_:Nat) (ts:List Tb):Prop where
 tabs:Qf2 w tb to_ ts
 lt:tb<w.heap.size
 short:Qia ts
 few:ts.length<=100
theorem Given.below {w q:World} {y j:Nat} {ts:List Tb} (h:Given w y j ts) (o:Below w.heap.size w q):Given q y j ts:=⟨h.tabs.below o h.lt,Nat.lt_of_lt_of_le h.lt o.size,h.short,h.few⟩
theorem QdE {W:World} {B g h:Nat} {us:List Value} {css:List (List Cl)} {n:Nat} (z:css.length=n) (j:W.ownsRow B 33 1 (.slice (some ⟨g,0,none⟩) n h) n us) (q:QaA W us css):Qbz W g 0 css/\g<W.heap.size:=
 ⟨fun i hi=>by
  obtain⟨u,o,y⟩:=q.2 i hi
  exact⟨u,by rw[Nat.zero_add];exact Qew j i u (by omega) o,y⟩,(j.lt g rfl).2⟩
theorem QbR.at {w:World} {B g:Nat} {ts:List Tb} (h:QbR w B g ts):Qa0 w g 0 ts:=fun j hj=>by
 obtain⟨y,o,z,D,q,A⟩:=h j hj
 exact⟨y,o,z,D,q.is,A.is⟩
theorem QiY {w:World} {z q:Nat} {ts:List Tb} (tcap:Nat) (j:Jb) (o:Given w z q ts) (y:∃t∈ts,Qan t.1 t.2=false):DoBoth w (some ⟨z,q,none⟩) ts.length tcap j 1 []:=
 ⟨fun W hW=>(QlI z q tcap ts j W (o.below hW).tabs.is (o.below hW).lt o.few o.short y).mono fun e w' h=>⟨Or.inl ⟨by decide,h.1⟩,h.2⟩,
  fun W hW=>(QhT z q tcap ts j W (o.below hW).tabs.is (o.below hW).lt o.few y).mono fun e w' h=>⟨Or.inl ⟨by decide,h.1⟩,h.2⟩⟩
theorem QaW {w:World} {A y:Nat} {ts:List Tb} {j:Jb} {M:Nat} {no:Int} {cs:List Cl} (tcap:Nat) (o:Given w A y ts) (q:∀t∈ts,Qan t.1 t.2=true) (D:0<ts.length) (K:ColsBoth w j (ts.map (·.1)) M no cs) (z:no≠0):DoBoth w (some ⟨A,y,none⟩) ts.length tcap j no []:=by
 refine⟨fun W hW=>?_,fun W hW=>?_⟩
 ·refine(QlJ A y tcap ts j W (o.below hW).tabs.is (o.below hW).lt o.few o.short D q no z (fun V B g cap us hV ho hh=>?_)).mono fun e F h=>⟨Or.inl ⟨z,h.1⟩,h.2⟩
  obtain⟨E,I⟩:=QdE (List.length_map ..) ho hh
  have:=K.ref V g cap (Qaa hW hV) I E
  rw[List.length_map] at this
  refine this.mono ?_
  rintro e F ⟨⟨-,h⟩|⟨h,-⟩,J⟩
  ·exact⟨h,J⟩
  ·exact absurd h z
 ·refine(QhU A y tcap ts j W (o.below hW).tabs.is (o.below hW).lt o.few D q no z (fun V B g cap us hV ho hh=>?_)).mono fun e F h=>⟨Or.inl ⟨z,h.1⟩,h.2⟩
  obtain⟨E,I⟩:=QdE (List.length_map ..) ho hh
  have:=K.ops V g cap (Qaa hW hV) I E
  rw[List.length_map] at this
  refine this.mono ?_
  rintro e F ⟨⟨-,h⟩|⟨h,-⟩,J⟩
  ·exact⟨h,J⟩
  ·exact absurd h z
theorem Qdb {w:World} {j:Jb} {ss:List ByteArray} {m N tb F:Nat} {ts:List Tb} {cs:List Cl} {no:Int} {Z:List Tb} (tcap:Nat) (hI:JobIn w j ss m) (hG:Given w tb F ts) (M:∀t∈ts,Qan t.1 t.2=true) (hC:ColsBoth w j (ts.map (·.1)) N 0 cs) (ae:0<N) (af:N<=2) (css:List (List Cl)) (q:css=List.replicate N cs) (tA tB:Tb) (I:Nat) (ai:ts.length=I+1) (D:ts[0]? =some tA) (E:ts[I]? =some tB)
 (K:∀W vcA o vcB vrB,Below w.heap.size w W->QfN o->QfN vrB->QcS W vrB tB.2->QgP W j ss css tA tB vcA o vcB vrB (fun e z=>Qbf e z W.heap.size no Z/\Below W.heap.size W z)):
 ∀W,Below w.heap.size w W->Calls Tryz.prog 13 #[.agg j.cells,.slice (some ⟨tb,F,none⟩) ts.length tcap] W fun e z=>Qbf e z W.heap.size no Z/\Below W.heap.size W z:=by
 intro W J
 have y:=hG.below J
 obtain⟨ca,cc,aa,ay⟩:=hI.cols
 obtain⟨vcA,o,a0,a1,T,U,ah⟩:=y.tabs 0 (by omega)
 obtain⟨vcB,vrB,b0,b1,O,A,ag⟩:=y.tabs I (by omega)
 have eA:ts[0]'(by omega)=tA:=by rw[List.getElem?_eq_getElem (by omega)] at D;simpa using D
 have eB:ts[I]'(by omega)=tB:=by rw[List.getElem?_eq_getElem (by omega)] at E;simpa using E
 rw[eA] at T U
 rw[eB] at O A
 refine QlL tb F tcap ts j W y.tabs.is y.lt hG.few hG.short (by omega) M css (by rw[q];simpa using af) (by rw[q];simpa using ae) ss ca cc aa (by rw[<-aa];exact hI.cols.below J) hI.few (fun V B g cap us hV ho hh=>?_) tA tB vcA o vcB vrB I ai D E (by simpa using a0) (by simpa using a1) b0 b1 T U.is O A.is _ (K W vcA o vcB vrB J ah ag A)
 obtain⟨h1,h2⟩:=QdE (List.length_map ..) ho hh
 have:=hC.ref V g cap (Qaa J hV) h2 h1
 rw[List.length_map,<-q] at this
 refine this.mono ?_
 rintro e z ⟨⟨h,-⟩|⟨-,g,c,h3,h4,h5,h6⟩,h'⟩
 ·exact absurd rfl h
 ·exact⟨g,c,h3,h4,h5,h6,h'⟩
theorem Qj9 {w:World} {j:Jb} {M y:Nat} {ts:List Tb} {cs:List Cl} (tcap:Nat) (Z:Given w M y ts) (z:∀t∈ts,Qan t.1 t.2=true) (U:0<ts.length) (hC:ColsBoth w j (ts.map (·.1)) 1 0 cs) (hsz:∀x∈cs,x.1.size<=maxLen) (q A:List (List Vl))
 (I:∀W,Below w.heap.size w W->Calls Tryz.prog 40 #[.agg j.cells,.slice (some ⟨M,y,none⟩) ts.length tcap] W fun e o=>∃v1 v2 us1 us2,e=.returned (.tuple #[v1,v2,.nilIface])/\o.ownsRow W.heap.size 57 1 v1 q.length us1/\Qac o W.heap.size us1 q/\o.ownsRow W.heap.size 57 1 v2 A.length us2/\Qac o W.heap.size us2 A/\Below W.heap.size W o):
 ∀W,Below w.heap.size w W->Calls Tryz.prog 14 #[.agg j.cells,.slice (some ⟨M,y,none⟩) ts.length tcap] W fun e o=>DoP e o W.heap.size (if 60<q.length then 12 else 0) [(cs,q)]/\Below W.heap.size W o:=by
 intro W O
 have E:=Z.below O
 have F:∀V B g D us,Below W.heap.size W V->V.ownsRow B 33 1 (.slice (some ⟨g,0,none⟩) ts.length D) ts.length us->QaA V us (ts.map (·.1))->Calls Tryz.prog 10 #[.agg j.cells,.slice (some ⟨g,0,none⟩) ts.length D] V fun e o=>∃v us,e=.returned (.tuple #[v,.nilIface])/\o.ownsRow V.heap.size 33 1 v 1 us/\Qbi o V.heap.size us cs/\Below V.heap.size V o:=by
  intro V B g D us J ho hh
  obtain⟨N,K⟩:=QdE (List.length_map ..) ho hh
  have:=hC.ops V g D (Qaa O J) K N
  rw[List.length_map] at this
  refine this.mono ?_
  rintro e o ⟨⟨h,-⟩|⟨-,v,us,h3,T,h5⟩,h'⟩
  ·exact absurd rfl h
  ·exact⟨v,us,h3,T,h5,h'⟩
 by_cases hf:60<q.length
 ·rw[if_pos hf]
  refine(Qlv M y tcap ts j W E.tabs.is E.lt Z.few U z cs 1 q A hf F (fun V J=>I V (Qaa O J))).mono ?_
  rintro e o ⟨N,K⟩
  exact⟨Or.inl ⟨by decide,N⟩,K⟩
 ·rw[if_neg hf]
  refine(Qex M y tcap ts j W E.tabs.is E.lt Z.few U z cs q A (by omega) hsz F (fun V J=>I V (Qaa O J))).mono ?_
  rintro e o ⟨g,c,N,K,h3,T,h5⟩
  exact⟨Or.inr ⟨rfl,g,c,N,K,h3,T.at,T.lens (by simp)⟩,h5⟩
theorem Qcg {q:Int} {j:List (List (List Vl))} (z:q≠8) (h:∀rs∈j,rs.length<=60):Qbl q j=0:=by
 unfold Qbl
 rw[if_neg (fun o=>z o.1),if_neg]
 intro o
 obtain⟨rs,y,A⟩:=List.any_eq_true.1 o
 have:=h rs y
 simp at A
 omega
theorem QeX {h:Int} {rs:List (List Vl)} (j:h≠8):Qbl h [rs]=if 60<rs.length then 12 else 0:=by
 unfold Qbl
 rw[if_neg (fun h'=>j h'.1)]
 simp
theorem QhK {w:World} {j:Jb} {ss:List ByteArray} {css:List (List Cl)} {tA tB:Tb} {vcA vcB vrB:Value} {rs:List (List Vl)} {n o:Int} {ts:List Tb} (h:Qco w j ss css tA tB vcA vcB vrB rs (fun e w'=>Qbf e w' w.heap.size n ts/\Below w.heap.size w w')) (e:n=o):Qco w j ss css tA tB vcA vcB vrB rs (fun e w'=>Qbf e w' w.heap.size o ts/\Below w.heap.size w w'):=e▸h
theorem Qf3 {t:Tb} (h:Qan t.1 t.2=true):∀x∈[t],Qan x.1 x.2=true:=by intro x j;simp at j;rw[j];exact h
theorem Qc8 {t:Tb} (h:Qan t.1 t.2=true):Qah t.1=true:=(Qbh h).1
theorem Qcu {w:World} {y j:Nat} {ts:List Tb} (o:Given w y j ts) (i:Nat) (h:i<ts.length):∀x∈ts[i].1,x.1.size<=maxLen:=by
 obtain⟨A,z,-,-,q,-⟩:=o.tabs i h
 exact QbI q
theorem Qmj {cs:List Cl} {r:List Vl} (q:Qbm r cs=true) {x:Ag} (h:x.1.data.toList=[]->rvB x.2=true) (y:Qb3 cs x):rvB (QaJ cs r x)=true:=by
 unfold QaJ
 by_cases he:x.1.data.toList=[]
 ·rw[if_pos he];exact h he
 ·rw[if_neg he]
  obtain⟨i,j⟩:=y.resolve_left he
  have o:=Qaj j
  have z:=Qd3 r cs q
  rw[j]
  simp only
  rw[List.getElem?_eq_getElem (show i<r.length by omega)]
  exact(QeQ q i (by omega) o).2
theorem Qka {x:Vl} (h:rvB x=true):x.2.2.size<=maxLen:=by
 have:=(QbQ h).1
 have j:x.2.2.size=x.2.2.data.toList.length:=by rw[Array.length_toList];rfl
 unfold maxLen
 omega
theorem QgX {t:Tb} {j:Jb} (I:Qan t.1 t.2=true) (he:Qax t.1 j=0):Qb3 t.1 j.left/\Qb3 t.1 j.right/\inS Qa3 j.op.data.toList=true/\∀r∈t.2,TestOK t.1 j r:=by
 have o:=Qe7 (QhV (Qc8 I)) he
 obtain⟨K,y⟩:=Qe6 he
 have y:=y o
 obtain⟨-,-,Z⟩:=Qbh I
 obtain⟨-,-,-,hl⟩:=Qar I
 have he':=he
 unfold Qax at he'
 split at he'
 ·cases he'
 rename_i N
 have J:inS Qa3 j.op.data.toList=true:=by
  cases g:inS Qa3 j.op.data.toList with
  |true=>rfl
  |false=>exact absurd (Or.inl g) N
 have z:j.left.1.data.toList≠[]:=fun h=>N (Or.inr h)
 obtain⟨i,F⟩:=K.resolve_left z
 have B:=Qaj F
 rw[F] at he'
 simp only[List.getElem?_eq_getElem B,Option.getD_some] at he'
 have T:QaI t.1 j.right=t.1[i].2:=by
  by_cases h:QaI t.1 j.right=t.1[i].2
  ·exact h
  ·rw[if_neg h] at he';cases he'
 refine⟨K,y,J,fun r hm=>?_⟩
 have q:=Z r hm
 have M:=hl r hm
 have V:QaJ t.1 r j.left=r[i]'(by omega):=by
  unfold QaJ
  rw[if_neg z,F]
  simp only
  rw[List.getElem?_eq_getElem (show i<r.length by omega)]
  rfl
 have E:j.right.1.data.toList=[]->rvB j.right.2=true:=fun h=>by
  unfold QaI at o
  rw[if_pos h] at o
  cases g:rvB j.right.2 with
  |true=>rfl
  |false=>rw[if_neg (by rw[g];decide)] at o;exact absurd rfl o
 have U:=Qmj q E y
 have O:rvB (QaJ t.1 r j.left)=true:=by rw[V];exact(QeQ q i (by omega) B).2
 refine⟨M,?_,Qka O,Qka U⟩
 rw[V,(QeQ q i (by omega) B).1,<-T]
 unfold QaI QaJ
 by_cases hc:j.right.1.data.toList=[]
 ·rw[if_pos hc,if_pos hc,if_pos (E hc)]
 ·rw[if_neg hc,if_neg hc]
  obtain⟨k,A⟩:=y.resolve_left hc
  have D:=Qaj A
  unfold QaI at o
  rw[if_neg hc,A] at o
  rw[A]
  simp only at o⊢
  split at o
  ·rename_i hz
   rw[if_pos hz,List.getElem?_eq_getElem (show k<r.length by omega),List.getElem?_eq_getElem D]
   exact(QeQ q k (by omega) D).1.symm
  ·exact absurd rfl o
theorem Qf4 {w:World} {B q:Nat} {t:Tb} {j:Jb} {ss:List ByteArray} (tcap:Nat) (o:JobIn w j ss 1) (A:Given w B q [t]) (h:j.code=1) (y:Qan t.1 t.2=true) (he:Qax t.1 j=0):DoBoth w (some ⟨B,q,none⟩) 1 tcap j 0 [(t.1,t.2.filter (QaH t.1 j))]:=by
 obtain⟨M,h6,E,hl⟩:=Qar y
 obtain⟨U,N,J,z⟩:=QgX y he
 have F:=QdW o h (Qc8 y)
 rw[he] at F
 obtain⟨T,oc,ho⟩:=o.outs
 refine⟨Qdb (ts:=[t]) tcap o A (Qf3 y) F (by decide) (by decide) [t.1] rfl t t 0 rfl rfl rfl (fun W vcA vrA vcB vrB hW hnA hnB hrc=>QbF (by rw[h];decide) (by rw[h];decide) ?_),fun W hW=>?_⟩
 ·have:=Qj1 (w:=W) (ss:=ss) t.1 (tA:=t) (tB:=t) (vcA:=vcA) (vcB:=vcB) (vrB:=vrB) h (rs:=t.2) (by omega) (o.env.below hW) o.op J (by omega) U N z
  exact QhK this (Qcg (by decide) (by intro x D;simp at D;rw[D];exact Nat.le_trans (List.length_filter_le _ _) E))
 ·have K:QaP j.code=(((1:Nat):Int),((1:Nat):Int)):=by rw[h];rfl
  refine(Qje B q tcap t j T 1 oc W h ho (A.below hW).tabs.is (A.below hW).lt o.right (by unfold Qe8;rw[if_neg (by rw[y];decide),if_neg (by rw[K];simp)];exact he)).mono ?_
  rintro e w' ⟨g,c,M,O,Z,I,V⟩
  exact⟨Or.inr ⟨rfl,g,c,M,O,Z,I.at,I.lens (by simp)⟩,V⟩
theorem QgY {w:World} {B q:Nat} {t:Tb} {j:Jb} {ss:List ByteArray} (tcap:Nat) (o:JobIn w j ss 2) (A:Given w B q [t]) (h:j.code=9) (y:Qan t.1 t.2=true) (he:Qax t.1 j=0):DoBoth w (some ⟨B,q,none⟩) 1 tcap j 0 [(t.1,t.2.filter (QaH t.1 j)),(t.1,t.2.filter (fun r=> !QaH t.1 j r))]:=by
 obtain⟨M,h6,E,hl⟩:=Qar y
 obtain⟨U,N,J,z⟩:=QgX y he
 have F:=QdX o h (Qc8 y)
 rw[he] at F
 obtain⟨T,oc,ho⟩:=o.outs
 refine⟨Qdb (ts:=[t]) tcap o A (Qf3 y) F (by decide) (by decide) [t.1,t.1] rfl t t 0 rfl rfl rfl (fun W vcA vrA vcB vrB hW hnA hnB hrc=>QbF (by rw[h];decide) (by rw[h];decide) ?_),fun W hW=>?_⟩
 ·have:=QkT (w:=W) (ss:=ss) t.1 (tA:=t) (tB:=t) (vcA:=vcA) (vcB:=vcB) (vrB:=vrB) h (rs:=t.2) (by omega) (o.env.below hW) o.op J (by omega) U N z
  exact QhK this (Qcg (by decide) (by intro x D;simp at D;rcases D with rfl|rfl<;>exact Nat.le_trans (List.length_filter_le _ _) E))
 ·have K:QaP j.code=(((1:Nat):Int),((2:Nat):Int)):=by rw[h];rfl
  refine(Qkt B q tcap t j T 2 oc W h ho (A.below hW).tabs.is (A.below hW).lt o.right (by unfold Qe8;rw[if_neg (by rw[y];decide),if_neg (by rw[K];simp)];exact he)).mono ?_
  rintro e w' ⟨g,c,M,O,Z,I,V⟩
  exact⟨Or.inr ⟨rfl,g,c,M,O,Z,I.at,I.lens (by simp)⟩,V⟩
theorem QiZ {w:World} {N B:Nat} {t:Tb} {j:Jb} {ss:List ByteArray} (tcap:Nat) (q:JobIn w j ss 1) (E:Given w N B [t]) (o:j.code=2) (z:Qan t.1 t.2=true) (x:ByteArray) (K:ss=[x]) (A:inS QaF j.op.data.toList=true) (he:Qa8 t.1 j x.data.toList=0):∃no ts,DoBoth w (some ⟨N,B,none⟩) 1 tcap j no ts:=by
 obtain⟨J,h6,af,hl⟩:=Qar z
 obtain⟨-,-,am⟩:=Qbh z
 obtain⟨i,M,k0,U,k2⟩:=QfT he
 have ap:=Qaj M
 have T:=QfY q o (Qc8 z) x K A
 rw[he] at T
 obtain⟨oa,oc,ho⟩:=q.outs
 have D:∀r∈t.2,SetOK t.1 j i r:=fun r hm=>by
  have aj:=hl r hm
  have ha:=QeQ (am r hm) i (by omega) ap
  refine⟨aj,⟨r[i].2.1,?_⟩,QfS z U r hm,QfS z k2 r hm⟩
  rw[List.getElem?_eq_getElem (show i<r.length by omega)]
  exact congrArg some (Qlk ha.2 (ha.1.trans k0))
 have F:=q.cols
 rw[K] at F
 have aw:QaP j.code=(((1:Nat):Int),((1:Nat):Int)):=by rw[o];rfl
 by_cases hall:∀r∈t.2,Qau (QdA t.1 j r)
 ·refine⟨0,[(t.1,t.2.map (Qdk t.1 j i))],Qdb (ts:=[t]) tcap q E (Qf3 z) T (by decide) (by decide) [t.1] rfl t t 0 rfl rfl rfl (fun W vcA vrA vcB vrB hW hnA hnB hrc=>QbF (by rw[o];decide) (by rw[o];decide) ?_),fun W hW=>?_⟩
  ·refine Qlm (w:=W) (ss:=ss) t.1 (tA:=t) (tB:=t) (vcA:=vcA) (vcB:=vcB) (vrB:=vrB) o (rs:=t.2) (by omega) x K i M A (by omega) (Qfp U) (Qfp k2) D (fun e Z h=>?_)
   rw[if_pos (List.all_eq_true.2 fun r hm=>decide_eq_true (hall r hm)),Qcg (by decide) (by intro y hy;simp at hy;rw[hy,List.length_map];exact af)] at h
   exact h
  ·obtain⟨nb,no,cc,I,hn,s0⟩:=QfX (F.below hW)
   refine(Qj8 N B tcap t j oa oc x nb no cc i W o ho I s0 hn A q.left q.right (E.below hW).tabs.is (E.below hW).lt M (by unfold QdD;rw[if_neg (by rw[z];decide),if_neg (by rw[he];decide),if_pos hall])).mono ?_
   rintro e Z ⟨g,c,J,V,h3,h4,h5⟩
   exact⟨Or.inr ⟨rfl,g,c,J,V,h3,h4.at,h4.lens (by simp)⟩,h5⟩
 ·have O:QdD t j x.data.toList=2:=by unfold QdD;rw[if_neg (by rw[z];decide),if_neg (by rw[he];decide),if_neg hall]
  refine⟨2,[(t.1,t.2.map (Qdk t.1 j i))],Qdb (ts:=[t]) tcap q E (Qf3 z) T (by decide) (by decide) [t.1] rfl t t 0 rfl rfl rfl (fun W vcA vrA vcB vrB hW hnA hnB hrc=>QbF (by rw[o];decide) (by rw[o];decide) ?_),fun W hW=>?_⟩
  ·refine Qlm (w:=W) (ss:=ss) t.1 (tA:=t) (tB:=t) (vcA:=vcA) (vcB:=vcB) (vrB:=vrB) o (rs:=t.2) (by omega) x K i M A (by omega) (Qfp U) (Qfp k2) D (fun e Z h=>?_)
   rw[if_neg (fun h'=>hall fun r hm=>of_decide_eq_true (List.all_eq_true.1 h' r hm))] at h
   exact h
  ·obtain⟨nb,no,cc,I,hn,s0⟩:=QfX (F.below hW)
   refine(QiX N B tcap t j oa oc x nb no cc W o ho I s0 hn A q.left q.right (E.below hW).tabs.is (E.below hW).lt (by rw[O];decide)).mono ?_
   rintro e Z ⟨J,V⟩
   rw[O] at J
   exact⟨Or.inl ⟨by decide,J⟩,V⟩
theorem QhL {w:World} {B o:Nat} {t:Tb} {j:Jb} {ss:List ByteArray} (tcap:Nat) (q:JobIn w j ss 1) (A:Given w B o [t]) (h:j.code=3) (y:Qan t.1 t.2=true) (he:QaB t.1 ss=0):DoBoth w (some ⟨B,o,none⟩) 1 tcap j 0 [(QaT (Qag t.1 ss) t.1,t.2.map (Qa2 (Qag t.1 ss)))]:=by
 obtain⟨J,h6,E,U⟩:=Qar y
 obtain⟨V,l6,z⟩:=Qcb he
 have F:=QdY q h (Qc8 y)
 rw[he] at F
 obtain⟨M,T,Z⟩:=q.outs
 refine⟨Qdb (ts:=[t]) tcap q A (Qf3 y) F (by decide) (by decide) [QaT (Qag t.1 ss) t.1] rfl t t 0 rfl rfl rfl (fun W vcA vrA vcB vrB hW hnA hnB hrc=>QbF (by rw[h];decide) (by rw[h];decide) ?_),fun W hW=>?_⟩
 ·have:=QlQ (w:=W) (ss:=ss) (QaT (Qag t.1 ss) t.1) (tA:=t) (tB:=t) (vcA:=vcA) (vcB:=vcB) (vrB:=vrB) h (rs:=t.2) (by omega) V (by omega) z (by omega) U
  exact QhK this (Qcg (by decide) (by intro x D;simp at D;rw[D,List.length_map];exact E))
 ·refine(Qiq B o tcap t j M T ss W h Z (q.cols.below hW) (A.below hW).tabs.is (A.below hW).lt (by unfold Qfb;rw[if_neg (by rw[y];decide)];exact he)).mono ?_
  rintro e w' ⟨g,c,J,K,O,I,N⟩
  exact⟨Or.inr ⟨rfl,g,c,J,K,O,I.at,I.lens (by simp)⟩,N⟩
theorem QhM {w:World} {A o:Nat} {t:Tb} {j:Jb} {ss:List ByteArray} (tcap:Nat) (y:JobIn w j ss 1) (z:Given w A o [t]) (h:j.code=4) (q:Qan t.1 t.2=true) (he:QaB t.1 ss=0):DoBoth w (some ⟨A,o,none⟩) 1 tcap j 0 [(t.1,QaR (Qag t.1 ss) t.2)]:=by
 obtain⟨J,V,D,hl⟩:=Qar q
 have E:=QdZ y h (Qc8 q)
 rw[he] at E
 obtain⟨M,T,U⟩:=y.outs
 have I:(QaR (Qag t.1 ss) t.2).length<=60:=by rw[Qb1];exact D
 refine⟨Qdb (ts:=[t]) tcap y z (Qf3 q) E (by decide) (by decide) [t.1] rfl t t 0 rfl rfl rfl (fun W vcA vrA vcB vrB hW hnA hnB hrc=>QjZ h q he hnA ?_),fun W hW=>?_⟩
 ·have:=QlP (w:=W) (ss:=ss) t.1 (tA:=t) (tB:=t) (vcA:=vcA) (vcB:=vcB) (vrB:=vrB) h (rs:=QaR (Qag t.1 ss) t.2) (by omega)
  exact QhK this (Qcg (by decide) (by intro x B;simp at B;rw[B];exact I))
 ·refine(Qiv A o tcap t j M T ss W h U (y.cols.below hW) (z.below hW).tabs.is (z.below hW).lt (by unfold Qfb;rw[if_neg (by rw[q];decide)];exact he)).mono ?_
  rintro e Z ⟨g,c,J,K,O,F,N⟩
  exact⟨Or.inr ⟨rfl,g,c,J,K,O,F.at,F.lens (by simp)⟩,N⟩
theorem Qi0 {w:World} {E A:Nat} {t u:Tb} {j:Jb} {ss:List ByteArray} (tcap:Nat) (D:JobIn w j ss 1) (z:Given w E A [t,u]) (o:j.code=5) (y:Qan t.1 t.2=true) (q:Qan u.1 u.2=true) (he:Qcj t.1 u.1=0):DoBoth w (some ⟨E,A,none⟩) 2 tcap j (if 60<(t.2++u.2).length then 12 else 0) [(t.1,t.2++u.2)]:=by
 obtain⟨N,O,I,M⟩:=Qar y
 obtain⟨T,U,J,K⟩:=Qar q
 have B:=Qf0 D o (Qc8 y) (Qc8 q)
 rw[he] at B
 have F:t.1=u.1:=by
  by_cases h:t.1=u.1
  ·exact h
  ·unfold Qcj at he;rw[if_neg h] at he;cases he
 refine⟨Qdb (ts:=[t,u]) tcap D z (Qcc y q) B (by decide) (by decide) [t.1] rfl t u 1 rfl rfl rfl (fun W vcA vrA vcB vrB hW hnA hnB hrc=>QbF (by rw[o];decide) (by rw[o];decide) ?_),Qj9 (ts:=[t,u]) tcap z (Qcc y q) (by simp) B (Qcu z 0 (by simp)) (t.2++u.2) [] (fun W hW=>Qjr o (z.below hW).tabs.is (z.below hW).lt y q F W (Below.refl _ _))⟩
 have:=Qmf (w:=W) (ss:=ss) t.1 (tA:=t) (tB:=u) (vcA:=vcA) (vcB:=vcB) (vrB:=vrB) o (rs:=t.2) (by omega) (by omega) hnB
 rw[QeX (by decide)] at this
 exact this
theorem QhN {w:World} {B o:Nat} {t:Tb} {j:Jb} {ss:List ByteArray} (tcap:Nat) (z:JobIn w j ss 1) (q:Given w B o [t]) (h:j.code=6) (y:Qan t.1 t.2=true):DoBoth w (some ⟨B,o,none⟩) 1 tcap j (if 60<(Qbs t.2).2.length then 12 else 0) [(t.1,(Qbs t.2).2)]:=by
 obtain⟨E,h6,Z,D⟩:=Qar y
 have F:=QgW z h (Qc8 y)
 have A:=QiC y
 refine⟨Qdb (ts:=[t]) tcap z q (Qf3 y) F (by decide) (by decide) [t.1] rfl t t 0 rfl rfl rfl (fun W vcA vrA vcB vrB hW hnA hnB hrc=>QbF (by rw[h];decide) (by rw[h];decide) ?_),Qj9 (ts:=[t]) tcap q (Qf3 y) (by simp) F (Qcu q 0 (by simp)) (Qbs t.2).2 [] (fun W hW=>?_)⟩
 ·have:=QlT (w:=W) (ss:=ss) t.1 (tA:=t) (tB:=t) (vcA:=vcA) (vcB:=vcB) (vrB:=vrB) h (rs:=t.2) (by omega) (z.env.below hW) (fun r hm=>⟨by have:=D r hm;omega,by have:=D r hm;omega,A r hm⟩)
  exact QhK this (QeX (by decide))
 ·obtain⟨U,N,c0,c1,V,I,-⟩:=(q.below hW).tabs 0 (by simp)
  refine(Qhn B o 1 tcap U N t.1 t.2 j W h A (z.env.below hW) (by decide) (q.below hW).lt (by simpa using c0) (by simpa using c1) V I.is E (by omega) D (by omega)).mono ?_
  rintro e w' ⟨K,J,E,M,O,T⟩
  exact⟨K,.slice none 0 0,J,[],E,M,O,World.ownsRow_nil _ _ _ _,Qac.nil _ _,T⟩
theorem QhO {w:World} {M E:Nat} {t u:Tb} {j:Jb} {ss:List ByteArray} (tcap:Nat) (J:JobIn w j ss 1) (A:Given w M E [t,u]) (o:j.code=7) (B:Qan t.1 t.2=true) (q:Qan u.1 u.2=true) (x y:ByteArray) (F:ss=[x,y]) (he:QaQ t.1 u.1 x y=0):DoBoth w (some ⟨M,E,none⟩) 2 tcap j (if 60<(Qbr t.2 u.2 (pOf t.1 x) (pOf u.1 y)).length then 12 else 0) [(Qb0 t.1 u.1 (pOf u.1 y),Qbr t.2 u.2 (pOf t.1 x) (pOf u.1 y))]:=by
 obtain⟨h1,h6,aa,V⟩:=Qar B
 obtain⟨k1,k6,ab,U⟩:=Qar q
 have I:=QeU J o (Qc8 B) (Qc8 q) x y F
 rw[he] at I
 obtain⟨Z,T⟩:=QeE he
 have D:=J.cols
 rw[F] at D
 have O:=QbW D
 refine⟨Qdb (ts:=[t,u]) tcap J A (Qcc B q) I (by decide) (by decide) [Qb0 t.1 u.1 (pOf u.1 y)] rfl t u 1 rfl rfl rfl (fun W vcA vrA vcB vrB hW hnA hnB hrc=>QbF (by rw[o];decide) (by rw[o];decide) ?_),Qj9 (ts:=[t,u]) tcap A (Qcc B q) (by simp) I ?_ (Qbr t.2 u.2 (pOf t.1 x) (pOf u.1 y)) [] (fun W hW=>?_)⟩
 ·have:=QlU (w:=W) (ss:=ss) (Qb0 t.1 u.1 (pOf u.1 y)) (tA:=t) (tB:=u) (vcA:=vcA) (vcB:=vcB) (vrB:=vrB) o (rs:=t.2) (by omega) (by omega) x y F (O.below hW) (pOf t.1 x) (pOf u.1 y) Z T (by omega) (by omega) V U hrc
  exact QhK this (QeX (by decide))
 ·intro z K
  unfold Qb0 at K
  simp only[List.append_assoc,List.mem_append] at K
  rcases K with h|h|h
  ·exact Qcu A 0 (by simp) z h
  ·exact Qcu A 1 (by simp) z (List.mem_of_mem_take h)
  ·exact Qcu A 1 (by simp) z (List.mem_of_mem_drop h)
 ·obtain⟨vc,vr,c0,c1,hc,N,-⟩:=(A.below hW).tabs 1 (by simp)
  exact Qiz o (O.below hW) (A.below hW).tabs.is (A.below hW).lt (by simpa using c1) N B q he W (Below.refl _ _)
theorem QlW {gs:List Gr} (D:gs.length<=60):Qbl 8 [Qao gs]=if∀g∈gs,Qau g.2 then 0 else 2:=by
 have y:∀g:Gr,Qe2 [g.1,(1,g.2,⟨#[]⟩)]=decide (Qau g.2):=fun g=>by
  show rvB (1,g.2,⟨#[]⟩)=_
  rw[Bool.eq_iff_iff,decide_eq_true_iff]
  unfold rvB Qat Qau
  simp
 unfold Qbl
 by_cases h:∀g∈gs,Qau g.2
 ·rw[if_pos h,if_neg,if_neg]
  ·simp[QaE];omega
  ·intro B
   have z:=B.2
   simp only[List.any_cons,List.any_nil,Bool.or_false,Qao,List.any_map] at z
   obtain⟨g,j,o⟩:=List.any_eq_true.1 z
   have o:(!Qe2 [g.1,(1,g.2,⟨#[]⟩)])=true:=o
   rw[y g,decide_eq_true (h g j)] at o
   cases o
 ·rw[if_neg h,if_pos]
  refine⟨rfl,?_⟩
  simp only[List.any_cons,List.any_nil,Bool.or_false,Qao,List.any_map]
  have:∃g∈gs,¬Qau g.2:=by
   apply Classical.byContradiction
   intro A
   exact h fun g j=>Classical.byContradiction fun q=>A ⟨g,j,q⟩
  obtain⟨g,j,q⟩:=this
  refine List.any_eq_true.2 ⟨g,j,?_⟩
  show(!Qe2 [g.1,(1,g.2,⟨#[]⟩)])=true
  rw[y g,decide_eq_false q]
  rfl
theorem Qi1 {w:World} {K A:Nat} {t:Tb} {j:Jb} {ss:List ByteArray} (tcap:Nat) (U:JobIn w j ss 1) (B:Given w K A [t]) (o:j.code=8) (D:Qan t.1 t.2=true) (F:Bool) (z:j.op=opB F) (x y:ByteArray) (M:ss=[x,y]) (he:QaG t.1 x y=0):∃no ts,DoBoth w (some ⟨K,A,none⟩) 1 tcap j no ts:=by
 obtain⟨q,h6,af,hl⟩:=Qar D
 obtain⟨-,-,am⟩:=Qbh D
 obtain⟨hp,hq,hk,au⟩:=QcD he
 have ab:=Qaj hq
 have O:(decide (j.op.data.toList=[115,117,109])||decide (j.op.data.toList=[109,97,120]))=true:=by rw[z];cases F<;>rfl
 have hC:=QfZ U o (Qc8 D) x y M O
 rw[he] at hC
 obtain⟨T,V,ho⟩:=U.outs
 have E:=U.cols
 rw[M] at E
 have aj:(QaR [pOf t.1 x] t.2).length<=60:=by rw[Qb1];exact af
 have ak:(QeV F (pOf t.1 x) (pOf t.1 y) (QaR [pOf t.1 x] t.2)).length<=60:=Nat.le_trans (Qf1 F _ _ _) aj
 have Z:∀r∈QaR [pOf t.1 x] t.2,r.length=t.1.length/\∃num,Qau num/\vAt r (pOf t.1 y)=(1,num,⟨#[]⟩):=fun r hm=>by
  have hm':r∈t.2:=(Stb.sortL_mem (Qgo [pOf t.1 x])).1 hm
  have al:=hl r hm'
  have ha:=QeQ (am r hm') (pOf t.1 y) (by omega) ab
  have ah:t.1[pOf t.1 y].2=1:=by
   have:=hk
   unfold QbC at this
   rw[List.getElem?_eq_getElem ab] at this
   exact this
  refine⟨al,r[pOf t.1 y].2.1,QjW ha.2,?_⟩
  rw[QbB (show pOf t.1 y<r.length by omega)]
  exact Qlk ha.2 (ha.1.trans ah)
 refine⟨if∀g∈QeV F (pOf t.1 x) (pOf t.1 y) (QaR [pOf t.1 x] t.2),Qau g.2 then 0 else 2,[(QaT [pOf t.1 x,pOf t.1 y] t.1,Qao (QeV F (pOf t.1 x) (pOf t.1 y) (QaR [pOf t.1 x] t.2)))],Qdb (ts:=[t]) tcap U B (Qf3 D) hC (by decide) (by decide) [QaT (Qag t.1 [x,y]) t.1] rfl t t 0 rfl rfl rfl (fun W vcA vrA vcB vrB hW hnA hnB hrc=>QiR o D (by rw[M];exact Qee he) x y M hnA ?_),fun W hW=>?_⟩
 ·have:=Qmh (w:=W) (ss:=ss) (QaT (Qag t.1 [x,y]) t.1) (tA:=t) (tB:=t) (vcA:=vcA) (vcB:=vcB) (vrB:=vrB) o (rs:=QaR [pOf t.1 x] t.2) (by omega) F z x y M (pOf t.1 x) (pOf t.1 y) hp hq (by omega) Z
  exact QhK this (QlW ak)
 ·cases F
  ·by_cases h:∀g∈Mx.grpOf t x y,Qau g.2
   ·have hall':∀g∈QeV false (pOf t.1 x) (pOf t.1 y) (QaR [pOf t.1 x] t.2),Qau g.2:=h
    rw[if_pos hall']
    refine(Mx.do_grp_ok K A tcap t x y j T V W o z ho (E.below hW) (B.below hW).tabs.is (B.below hW).lt (by unfold Mx.grpNo;rw[if_neg (by rw[D];decide),if_neg (by rw[he];decide),if_pos h])).mono ?_
    rintro e w' ⟨g,c,q,J,O,N,h5⟩
    exact⟨Or.inr ⟨rfl,g,c,q,J,O,N.at,N.lens (by simp)⟩,h5⟩
   ·have hall':¬∀g∈QeV false (pOf t.1 x) (pOf t.1 y) (QaR [pOf t.1 x] t.2),Qau g.2:=h
    have I:Mx.grpNo t x y=2:=by unfold Mx.grpNo;rw[if_neg (by rw[D];decide),if_neg (by rw[he];decide),if_neg h]
    rw[if_neg hall']
    refine(Mx.do_grp_bad K A tcap t x y j T V W o z ho (E.below hW) (B.below hW).tabs.is (B.below hW).lt (by rw[I];decide)).mono ?_
    rintro e w' ⟨q,J⟩
    rw[I] at q
    exact⟨Or.inl ⟨by decide,q⟩,J⟩
  ·by_cases h:∀g∈grpOf t x y,Qau g.2
   ·have hall':∀g∈QeV true (pOf t.1 x) (pOf t.1 y) (QaR [pOf t.1 x] t.2),Qau g.2:=h
    rw[if_pos hall']
    refine(do_grp_ok K A tcap t x y j T V W o z ho (E.below hW) (B.below hW).tabs.is (B.below hW).lt (by unfold grpNo;rw[if_neg (by rw[D];decide),if_neg (by rw[he];decide),if_pos h])).mono ?_
    rintro e w' ⟨g,c,q,J,O,N,h5⟩
    exact⟨Or.inr ⟨rfl,g,c,q,J,O,N.at,N.lens (by simp)⟩,h5⟩
   ·have hall':¬∀g∈QeV true (pOf t.1 x) (pOf t.1 y) (QaR [pOf t.1 x] t.2),Qau g.2:=h
    have I:grpNo t x y=2:=by unfold grpNo;rw[if_neg (by rw[D];decide),if_neg (by rw[he];decide),if_neg h]
    rw[if_neg hall']
    refine(do_grp_bad K A tcap t x y j T V W o z ho (E.below hW) (B.below hW).tabs.is (B.below hW).lt (by rw[I];decide)).mono ?_
    rintro e w' ⟨q,J⟩
    rw[I] at q
    exact⟨Or.inl ⟨by decide,q⟩,J⟩
end Go.Proofs.YtofidnijfnhpaaaGreatDoor
