import Derived.Lib.SmallJoins
import Derived.Test.YtjlgejennghhlaaGreatDoorR01
import Derived.Test.YtjlgejennghhlaaGreatDoorR02
set_option linter.unusedSimpArgs false
set_option linter.unusedVariables false
set_option linter.unusedSectionVars false
set_option maxRecDepth 1000000
set_option maxHeartbeats 16000000
namespace Go.Proofs.YtjlgejennghhlaaGreatDoor
open Go.RowKit
def Qda (l:List UInt8):Int×Int×List UInt8:=
 if Lib.hasPrefix l [39] then(2,0,Lib.trimSuffix (l.drop 1) [39]) else
 match Lib.atoiAll l with
 |.ok n=>(1,n,[])
 |_=>(0,0,[])
def Qbj (l:List UInt8):Option (Int×Int×List UInt8):=
 if Qao (Qda l).1 (Qda l).2.1 (Qda l).2.2=true/\Qb3 (Qda l).1 (Qda l).2.1 (Qda l).2.2=l then some (Qda l) else none
def Qri (x:Int×Int×List UInt8):Value:=.agg #[.int .i64 x.1,.int .i64 x.2.1,.string ⟨x.2.2.toArray⟩]
def Qc3:Option (Int×Int×List UInt8)->Value
 |some x=>.tuple #[Qri x,.nilIface]
 |none=>.tuple #[.agg #[.int .i64 0,.int .i64 0,.string ⟨#[]⟩],.iface 37 (.int .i64 3)]
theorem QlF (x:Lib.NumEnd Int):(∃n,x=.ok n)\/x=Lib.atoiAll []\/x=.range:=by
 cases x
 ·exact Or.inl ⟨_,rfl⟩
 ·exact Or.inr (Or.inl rfl)
 ·exact Or.inr (Or.inr rfl)
theorem QlG (s:ByteArray) (w:World) (n:Int) (y:s.size<=1000000) (h:Lib.atoiAll s.data.toList=.ok n):
 Calls Tryz.prog 121 #[.string s] w fun e w'=>e=.returned (.tuple #[.int .i64 n,.nilIface])/\Below w.heap.size w w':=
 (Tryz.strconv_Atoi_ok s (by omega) n h w).mono fun _ _ x=>⟨x.1,by
  rcases x.2 with h|⟨t,h⟩
  ·rw[h];exact Below.refl _ _
  ·rw[h];exact Joins.below_bytesWorld _ _ _ _ (Nat.le_refl _)⟩
theorem QnN (s:ByteArray) (w:World) (M:s.size<=1000000) (h:∀n,Lib.atoiAll s.data.toList≠.ok n) (D:Env w):
 Calls Tryz.prog 121 #[.string s] w fun e w'=>∃n t p,e=.returned (.tuple #[.int .i64 n,.iface t p])/\Below w.heap.size w w':=by
 obtain⟨H,F,K⟩:=D.es;obtain⟨E,J,I⟩:=D.er;rcases QlF (Lib.atoiAll s.data.toList) with ⟨n,g⟩|g|g
 ·exact absurd g (h n)
 ·exact(Tryz.strconv_Atoi_syntax_var s (by omega) g H F w K).mono fun _ _ ⟨N,x,_,_,y⟩=>⟨_,_,_,x,y⟩
 ·exact(Tryz.strconv_Atoi_range_var s (by omega) g E J w I).mono fun _ _ ⟨N,x,_,_,y⟩=>⟨_,_,_,x,y⟩
theorem Qa4 {k n:Int} {l:List UInt8} (h:Qao k n l=true):l.length<=16/\-1000000000<=n/\n<=1000000000:=by
 unfold Qao at h;split at h
 ·simp at h;rw[h.2.2];exact⟨by simp,h.1,h.2.1⟩
 ·split at h
  ·simp[Qcy] at h;rw[h.2];exact⟨h.1.1,by omega,by omega⟩
  ·simp at h
theorem Qgm {l:List UInt8} {x:Int×Int×List UInt8} (h:Qda l=x):Qbj l=if Qao x.1 x.2.1 x.2.2=true/\Qb3 x.1 x.2.1 x.2.2=l then some x else none:=by
 subst h;rfl
theorem pre_len {s:ByteArray} (y:Lib.hasPrefix s.data.toList [39]=true):1<=s.size:=by
 have D:s.data.toList.length=s.size:=by simp
 cases h:s.data.toList with
 |nil=>rw[h] at y;simp[Lib.hasPrefix] at y
 |cons c r=>rw[h] at D;simp at D;omega
theorem QnO (l:List UInt8) {n:Nat} (h:l.length<=n):(Lib.trimSuffix l [39]).length<=n:=by
 unfold Lib.trimSuffix;split
 ·rw[List.length_take];omega
 ·exact h
theorem QeX (s:ByteArray) (w:World) (hs:s.size<=1000000) (hE:Env w) (hp:Lib.hasPrefix s.data.toList [39]=true):
 Calls Tryz.prog 88 #[.string s] w fun e w'=>e=.returned (Qc3 (Qbj s.data.toList))/\Below w.heap.size w w':=by
 have aq:1<=s.size:=pre_len hp;have hP:=Tryz.strings_HasPrefix s ⟨#[39]⟩ ((w.alloc (.cells #[.int .i64 0,.int .i64 0,.string ⟨#[]⟩] 46)).alloc (.cells #[.int .i64 0,.int .i64 0,.string ⟨#[]⟩] 46));have hp':Lib.hasPrefix s.data.toList (ByteArray.mk #[39]).data.toList=true:=hp;rw[hp'] at hP;have HP:=Hk hP;have HE:=Hk hE;have ac:Qda s.data.toList=(2,0,Lib.trimSuffix (s.data.toList.drop 1) [39]):=by simp[Qda,hp]
 have N:=Hk (Qgm ac);clear hP hE hp hp' ac;have HT:Hid (List.take (s.size-1) s.data.toList.tail=s.data.toList.drop 1):=by
  show _=_
  rw[List.drop_one,List.take_of_length_le (by simp)]
 have ap:(Lib.trimSuffix (s.data.toList.drop 1) [39]).length<=1000000:=QnO _ (by simp;omega);go_enter Tryz.func88,Tryz.ntmps88;go_wp2_with (first|(go_at_call 109;refine HP.out.mono ?_;rintro e w' ⟨rfl,rfl⟩)|(go_at_call 120;refine(Tryz.strings_TrimSuffix _ _ _ (by simp;omega)).mono ?_;rintro e w' ⟨rfl,rfl⟩)|(go_at_call 65;fail));rw[HT.out];clear HT HP;generalize Lib.trimSuffix (s.data.toList.drop 1) [39]=x at*;have O:=Qbb 2 0 ⟨x.toArray⟩ ((w.alloc (.cells #[.int .i64 0,.int .i64 0,.string ⟨#[]⟩] 46)).alloc (.cells #[.int .i64 2,.int .i64 0,.string ⟨x.toArray⟩] 46)) (by unfold maxLen;simp[ByteArray.size];omega);have hV:=fun(D:World) (h1:Env D) (Z:x.length<=1000)=>Qfj 2 0 ⟨x.toArray⟩ D (by simpa [ByteArray.size] using Z) (by omega) (by omega) h1
 cases g:Qao 2 0 x
 ·have J:Qbj s.data.toList=none:=by rw[N.out];simp[g]
  rw[show Qao 2 0 (ByteArray.mk x.toArray).data.toList=false from g] at O;have U:=Hk J;clear J N hV;refine O.mono ?_;rintro e D ⟨rfl,F⟩;obtain⟨y,M⟩:=QaQ F;go_wp2;have hz:w.heap.size+1<D.heap.size:=by have:=F.size;simp at this;omega
  have c0:D.cell? ⟨w.heap.size,0,none⟩=some (.int .i64 0):=(y _ _ (by simp;omega)).trans (by simp);have c1:D.cell? ⟨w.heap.size,1,none⟩=some (.int .i64 0):=(y _ _ (by simp;omega)).trans (by simp);have c2:D.cell? ⟨w.heap.size,2,none⟩=some (.string ⟨#[]⟩):=(y _ _ (by simp;omega)).trans (by simp);clear y M;refine bodyPost_ret (v:=Qc3 none) (by simp[results,Tryz.results88,go_sem,c0,c1,c2,Qc3]) rfl ⟨by rw[U.out],?_⟩;exact(((((Qaa _ _).alloc (by simp) _).trans (F.mono (by simp;omega))).setCell (by simp) _).setCell (by simp) _).setCell (by simp) _
 ·rw[show Qao 2 0 (ByteArray.mk x.toArray).data.toList=true from g] at O;have am:=(Qa4 g).1;have Z:∀D,Env D->_:=fun D h=>hV D h (by omega)
  have HV:=Hk Z;clear Z hV;refine O.mono ?_;rintro e D ⟨rfl,F⟩;obtain⟨y,M⟩:=QaQ F;have ab:Env D:=(HE.out.below ((Qaa w _).alloc (by simp) _)).below F;have ad:=Hk ab;have hz:w.heap.size+1<D.heap.size:=by have:=F.size;simp at this;omega
  have H:w.heap.size<D.heap.size:=by omega
  clear O ab
  cases g2:(Qb3 2 0 x==s.toList)
  ·have J:Qbj s.data.toList=none:=by
    rw[N.out,if_neg];rintro⟨-,h⟩;rw[ByteArray.toList_eq] at g2;simp[h] at g2
   have U:=Hk J;clear J N;go_wp2_with (go_at_call 122;refine(HV.out _ ad.out).mono ?_;rintro e K ⟨rfl,I⟩;obtain⟨E,V⟩:=QaQ I);have c0:K.cell? ⟨w.heap.size,0,none⟩=some (.int .i64 0):=(E _ _ H).trans ((y _ _ (by simp;omega)).trans (by simp));have c1:K.cell? ⟨w.heap.size,1,none⟩=some (.int .i64 0):=(E _ _ H).trans ((y _ _ (by simp;omega)).trans (by simp));have c2:K.cell? ⟨w.heap.size,2,none⟩=some (.string ⟨#[]⟩):=(E _ _ H).trans ((y _ _ (by simp;omega)).trans (by simp));clear y M E V;refine bodyPost_ret (v:=Qc3 none) (by simp[results,Tryz.results88,go_sem,c0,c1,c2,Qc3]) rfl ⟨by rw[U.out],?_⟩;exact((((((Qaa _ _).alloc (by simp) _).trans (F.mono (by simp;omega))).trans (I.mono (by omega))).setCell (by simp) _).setCell (by simp) _).setCell (by simp) _
  ·have J:Qbj s.data.toList=some (2,0,x):=by
    rw[N.out,if_pos];rw[ByteArray.toList_eq] at g2;exact⟨g,by simpa using g2⟩
   have U:=Hk J;clear J N;go_wp2_with (go_at_call 122;refine(HV.out _ ad.out).mono ?_;rintro e K ⟨rfl,I⟩;obtain⟨E,V⟩:=QaQ I);have c0:K.cell? ⟨w.heap.size,0,none⟩=some (.int .i64 0):=(E _ _ H).trans ((y _ _ (by simp;omega)).trans (by simp));have c1:K.cell? ⟨w.heap.size,1,none⟩=some (.int .i64 0):=(E _ _ H).trans ((y _ _ (by simp;omega)).trans (by simp));have c2:K.cell? ⟨w.heap.size,2,none⟩=some (.string ⟨#[]⟩):=(E _ _ H).trans ((y _ _ (by simp;omega)).trans (by simp));clear y M E V;refine bodyPost_ret (v:=Qc3 (some (2,0,x))) (by simp[results,Tryz.results88,go_sem,c0,c1,c2,Qc3,Qri]) rfl ⟨by rw[U.out],?_⟩;exact((((((Qaa _ _).alloc (by simp) _).trans (F.mono (by simp;omega))).trans (I.mono (by omega))).setCell (by simp) _).setCell (by simp) _).setCell (by simp) _
theorem Qgd (s:ByteArray) (w:World) (n:Int) (hs:s.size<=1000000) (hE:Env w) (hp:Lib.hasPrefix s.data.toList [39]=false) (ha:Lib.atoiAll s.data.toList=.ok n):
 Calls Tryz.prog 88 #[.string s] w fun e w'=>e=.returned (Qc3 (Qbj s.data.toList))/\Below w.heap.size w w':=by
 have hP:=Tryz.strings_HasPrefix s ⟨#[39]⟩ ((w.alloc (.cells #[.int .i64 0,.int .i64 0,.string ⟨#[]⟩] 46)).alloc (.cells #[.int .i64 0,.int .i64 0,.string ⟨#[]⟩] 46));have hp':Lib.hasPrefix s.data.toList (ByteArray.mk #[39]).data.toList=false:=hp;rw[hp'] at hP;have HP:=Hk hP;have HE:=Hk hE;have al:Qda s.data.toList=(1,n,[]):=by simp[Qda,hp,ha]
 have HX:=Hk (Qgm al);have HA:=Hk (QlG s ((w.alloc (.cells #[.int .i64 0,.int .i64 0,.string ⟨#[]⟩] 46)).alloc (.cells #[.int .i64 0,.int .i64 0,.string ⟨#[]⟩] 46)) n hs ha);clear hP hE hp hp' al ha;go_enter Tryz.func88,Tryz.ntmps88;go_wp2_with (first|(go_at_call 109;refine HP.out.mono ?_;rintro e w' ⟨rfl,rfl⟩)|(go_at_call 121;refine HA.out.mono ?_;rintro e M ⟨rfl,Z⟩;obtain⟨N,aa⟩:=QaQ Z)|(go_at_call 65;fail));have sA:w.heap.size+1<M.heap.size:=by have:=Z.size;simp at this;omega
 have a0:M.cell? ⟨w.heap.size+1,0,none⟩=some (.int .i64 0):=(N _ _ (by simp)).trans (by simp);have a1:M.cell? ⟨w.heap.size+1,1,none⟩=some (.int .i64 0):=(N _ _ (by simp)).trans (by simp);have a2:M.cell? ⟨w.heap.size+1,2,none⟩=some (.string ⟨#[]⟩):=(N _ _ (by simp)).trans (by simp);have q0:M.cell? ⟨w.heap.size,0,none⟩=some (.int .i64 0):=(N _ _ (by simp;omega)).trans (by simp);have q1:M.cell? ⟨w.heap.size,1,none⟩=some (.int .i64 0):=(N _ _ (by simp;omega)).trans (by simp);have q2:M.cell? ⟨w.heap.size,2,none⟩=some (.string ⟨#[]⟩):=(N _ _ (by simp;omega)).trans (by simp);have z0:M.frozen? ⟨w.heap.size,0,none⟩=false:=(aa _ _ (by simp;omega)).trans (by simp);have z1:M.frozen? ⟨w.heap.size,1,none⟩=false:=(aa _ _ (by simp;omega)).trans (by simp);have z2:M.frozen? ⟨w.heap.size,2,none⟩=false:=(aa _ _ (by simp;omega)).trans (by simp);have bA:Below w.heap.size w M:=((Qaa w _).alloc (by simp) _).trans (Z.mono (by simp;omega));obtain⟨F,y⟩:∃F,F=((M.setCell ⟨w.heap.size+1,0,none⟩ (.int .i64 1)).setCell ⟨w.heap.size+1,1,none⟩ (.int .i64 n)).setCell ⟨w.heap.size+1,2,none⟩ (.string ⟨#[]⟩):=⟨_,rfl⟩;have v0:F.cell? ⟨w.heap.size+1,0,none⟩=some (.int .i64 1):=by rw[y];simp[go_sem,a0,a1,a2]
 have v1:F.cell? ⟨w.heap.size+1,1,none⟩=some (.int .i64 n):=by rw[y];simp[go_sem,a0,a1,a2]
 have v2:F.cell? ⟨w.heap.size+1,2,none⟩=some (.string ⟨#[]⟩):=by rw[y];simp[go_sem,a0,a1,a2]
 have r0:F.cell? ⟨w.heap.size,0,none⟩=some (.int .i64 0):=by rw[y];simp[go_sem,q0]
 have r1:F.cell? ⟨w.heap.size,1,none⟩=some (.int .i64 0):=by rw[y];simp[go_sem,q1]
 have r2:F.cell? ⟨w.heap.size,2,none⟩=some (.string ⟨#[]⟩):=by rw[y];simp[go_sem,q2]
 have f0:F.frozen? ⟨w.heap.size,0,none⟩=false:=by rw[y];simp[go_sem,z0]
 have f1:F.frozen? ⟨w.heap.size,1,none⟩=false:=by rw[y];simp[go_sem,z1]
 have f2:F.frozen? ⟨w.heap.size,2,none⟩=false:=by rw[y];simp[go_sem,z2]
 have sz:w.heap.size+1<F.heap.size:=by rw[y];simpa [World.setCell] using sA
 have E:w.heap.size<F.heap.size:=by omega
 have bB:Below w.heap.size w F:=by rw[y];exact((bA.setCell (by simp) _).setCell (by simp) _).setCell (by simp) _
 rw[<-y];clear y a0 a1 a2 q0 q1 q2 z0 z1 z2 bA N aa Z sA HA HP;have hq:=Qbb 1 n ⟨#[]⟩ F (by unfold maxLen;simp[ByteArray.size]);have V:∀K,Env K->Qao 1 n []=true->_:=fun K h g=>Qfj 1 n ⟨#[]⟩ K (by simp[ByteArray.size]) (by have:=(Qa4 g).2;omega) (by have:=(Qa4 g).2;omega) h
 cases g:Qao 1 n []
 ·have U:Qbj s.data.toList=none:=by rw[HX.out];simp[g]
  rw[show Qao 1 n (ByteArray.mk #[]).data.toList=false from g] at hq;have HN:=Hk U;clear U HX V;refine hq.mono ?_;rintro e K ⟨rfl,J⟩;obtain⟨D,ab⟩:=QaQ J;clear hq;go_wp2;have c0:=(D w.heap.size 0 E).trans r0;have c1:=(D w.heap.size 1 E).trans r1;have c2:=(D w.heap.size 2 E).trans r2;clear D ab;refine bodyPost_ret (v:=Qc3 none) (by simp[results,Tryz.results88,go_sem,c0,c1,c2,Qc3]) rfl ⟨by rw[HN.out],?_⟩;exact(((bB.trans (J.mono (Nat.le_of_lt E))).setCell (Nat.le_refl _) _).setCell (Nat.le_refl _) _).setCell (Nat.le_refl _) _
 ·rw[show Qao 1 n (ByteArray.mk #[]).data.toList=true from g] at hq;have h2:∀K,Env K->_:=fun K h=>V K h g
  have HV:=Hk h2;clear h2 V;refine hq.mono ?_;rintro e K ⟨rfl,J⟩;obtain⟨D,ab⟩:=QaQ J;have ak:Env K:=(HE.out.below bB).below J;have am:=Hk ak;have hz:w.heap.size+1<K.heap.size:=by have:=J.size;omega
  have I:w.heap.size<K.heap.size:=by omega
  clear hq ak
  cases g2:(Qb3 1 n []==s.toList)
  ·have U:Qbj s.data.toList=none:=by
    rw[HX.out,if_neg];rintro⟨-,h⟩;rw[ByteArray.toList_eq] at g2;simp[h] at g2
   have HN:=Hk U;clear U HX;go_wp2_with (go_at_call 122;refine(HV.out _ am.out).mono ?_;rintro e w2 ⟨rfl,O⟩;obtain⟨H,af⟩:=QaQ O);have c0:=(H w.heap.size 0 I).trans ((D w.heap.size 0 E).trans r0);have c1:=(H w.heap.size 1 I).trans ((D w.heap.size 1 E).trans r1);have c2:=(H w.heap.size 2 I).trans ((D w.heap.size 2 E).trans r2);clear D ab H af;refine bodyPost_ret (v:=Qc3 none) (by simp[results,Tryz.results88,go_sem,c0,c1,c2,Qc3]) rfl ⟨by rw[HN.out],?_⟩;exact((((bB.trans (J.mono (Nat.le_of_lt E))).trans (O.mono (Nat.le_of_lt I))).setCell (Nat.le_refl _) _).setCell (Nat.le_refl _) _).setCell (Nat.le_refl _) _
  ·have U:Qbj s.data.toList=some (1,n,[]):=by
    rw[HX.out,if_pos];rw[ByteArray.toList_eq] at g2;exact⟨g,by simpa using g2⟩
   have HN:=Hk U;clear U HX;go_wp2_with (go_at_call 122;refine(HV.out _ am.out).mono ?_;rintro e w2 ⟨rfl,O⟩;obtain⟨H,af⟩:=QaQ O);have c0:=(H w.heap.size 0 I).trans ((D w.heap.size 0 E).trans r0);have c1:=(H w.heap.size 1 I).trans ((D w.heap.size 1 E).trans r1);have c2:=(H w.heap.size 2 I).trans ((D w.heap.size 2 E).trans r2);clear D ab H af;refine bodyPost_ret (v:=Qc3 (some (1,n,[]))) (by simp[results,Tryz.results88,go_sem,c0,c1,c2,Qc3,Qri]) rfl ⟨by rw[HN.out],?_⟩;exact((((bB.trans (J.mono (Nat.le_of_lt E))).trans (O.mono (Nat.le_of_lt I))).setCell (Nat.le_refl _) _).setCell (Nat.le_refl _) _).setCell (Nat.le_refl _) _
theorem Qge (s:ByteArray) (w:World) (hs:s.size<=1000000) (Z:Env w) (M:Lib.hasPrefix s.data.toList [39]=false) (O:∀n,Lib.atoiAll s.data.toList≠.ok n):
 Calls Tryz.prog 88 #[.string s] w fun e w'=>e=.returned (Qc3 (Qbj s.data.toList))/\Below w.heap.size w w':=by
 have N:=Tryz.strings_HasPrefix s ⟨#[39]⟩ ((w.alloc (.cells #[.int .i64 0,.int .i64 0,.string ⟨#[]⟩] 46)).alloc (.cells #[.int .i64 0,.int .i64 0,.string ⟨#[]⟩] 46));have hp':Lib.hasPrefix s.data.toList (ByteArray.mk #[39]).data.toList=false:=M;rw[hp'] at N;have U:=Hk N;have K:Qda s.data.toList=(0,0,[]):=by
  unfold Qda;rw[if_neg (by simp[M])];split
  ·rename_i n h;exact absurd h (O n)
  ·rfl
 have hn:Qbj s.data.toList=none:=by rw[Qgm K];simp[Qao]
 have HN:=Hk hn;have V:=Hk (QnN s ((w.alloc (.cells #[.int .i64 0,.int .i64 0,.string ⟨#[]⟩] 46)).alloc (.cells #[.int .i64 0,.int .i64 0,.string ⟨#[]⟩] 46)) hs O (Z.below ((Qaa w _).alloc (by simp) _)));clear N Z M hp' K O hn;go_enter Tryz.func88,Tryz.ntmps88;go_wp2_with (first|(go_at_call 109;refine U.out.mono ?_;rintro e w' ⟨rfl,rfl⟩)|(go_at_call 121;refine V.out.mono ?_;rintro e y ⟨n,t,p,rfl,E⟩;obtain⟨D,F⟩:=QaQ E)|(go_at_call 65;fail));have sA:w.heap.size+1<y.heap.size:=by have:=E.size;simp at this;omega
 have a0:y.cell? ⟨w.heap.size+1,0,none⟩=some (.int .i64 0):=(D _ _ (by simp)).trans (by simp);have a1:y.cell? ⟨w.heap.size+1,1,none⟩=some (.int .i64 0):=(D _ _ (by simp)).trans (by simp);have a2:y.cell? ⟨w.heap.size+1,2,none⟩=some (.string ⟨#[]⟩):=(D _ _ (by simp)).trans (by simp);have q0:y.cell? ⟨w.heap.size,0,none⟩=some (.int .i64 0):=(D _ _ (by simp;omega)).trans (by simp);have q1:y.cell? ⟨w.heap.size,1,none⟩=some (.int .i64 0):=(D _ _ (by simp;omega)).trans (by simp);have q2:y.cell? ⟨w.heap.size,2,none⟩=some (.string ⟨#[]⟩):=(D _ _ (by simp;omega)).trans (by simp);have z0:y.frozen? ⟨w.heap.size,0,none⟩=false:=(F _ _ (by simp;omega)).trans (by simp);have z1:y.frozen? ⟨w.heap.size,1,none⟩=false:=(F _ _ (by simp;omega)).trans (by simp);have z2:y.frozen? ⟨w.heap.size,2,none⟩=false:=(F _ _ (by simp;omega)).trans (by simp);have bA:Below w.heap.size w y:=((Qaa w _).alloc (by simp) _).trans (E.mono (by simp;omega));clear D F V U E;refine(Qbb 0 0 ⟨#[]⟩ y (by unfold maxLen;simp[ByteArray.size])).mono ?_;rintro e w1 ⟨rfl,J⟩;rw[show Qao 0 0 (ByteArray.mk #[]).data.toList=false from rfl];obtain⟨I,ab⟩:=QaQ J;have H:w.heap.size<y.heap.size:=by omega
 go_wp2;have c0:=(I w.heap.size 0 H).trans q0;have c1:=(I w.heap.size 1 H).trans q1;have c2:=(I w.heap.size 2 H).trans q2;clear I ab;refine bodyPost_ret (v:=Qc3 none) (by simp[results,Tryz.results88,go_sem,c0,c1,c2,Qc3]) rfl ⟨by rw[HN.out],?_⟩;exact(((bA.trans (J.mono (Nat.le_of_lt H))).setCell (Nat.le_refl _) _).setCell (Nat.le_refl _) _).setCell (Nat.le_refl _) _
theorem QdE (s:ByteArray) (w:World) (y:s.size<=1000000) (D:Env w):
 Calls Tryz.prog 88 #[.string s] w fun e w'=>e=.returned (Qc3 (Qbj s.data.toList))/\Below w.heap.size w w':=by
 cases hp:Lib.hasPrefix s.data.toList [39]
 ·by_cases h:∃n,Lib.atoiAll s.data.toList=.ok n
  ·obtain⟨n,E⟩:=h;exact Qgd s w n y D hp E
  ·exact Qge s w y D hp (fun n e=>h ⟨n,e⟩)
 ·exact QeX s w y D hp
theorem grown_below {w w':World} (h:Below w.heap.size w w') (row:Option Nat):w.grownBy w' row:=⟨h.os,h.tape,h.output,h.size,fun k hk _=>h.block k hk⟩
theorem owns_below {w w':World} {base:Nat} {e:TypeId} {size:Nat} {v:Value} {n:Nat} {xs:List Value} (h:w.ownsRow base e size v n xs) (y:Below w.heap.size w w'):w'.ownsRow base e size v n xs:=
 h.kept (grown_below y none) (by cases v.ownBlock<;>simp)
theorem own_mono {w:World} {base B:Nat} {e:TypeId} {size:Nat} {v:Value} {n:Nat} {xs:List Value} (H:B<=base) (h:w.ownsRow base e size v n xs):w.ownsRow B e size v n xs:=by
 obtain⟨D,h|⟨g,E,y,F,I,r⟩⟩:=h
 ·exact⟨D,Or.inl h⟩
 ·exact⟨D,Or.inr ⟨g,E,y,F,by omega,r⟩⟩
theorem Qfk (s h:ByteArray) (w:World) (E:s.size<=1000000) (y:Env w):
 Calls Tryz.prog 47 #[.string s,.string h] w fun e w'=>e=.returned (.tuple #[.string ⟨(Lib.cut s.data.toList h.data.toList).1.toArray⟩,.string ⟨(Lib.cut s.data.toList h.data.toList).2.1.toArray⟩,.bool (Lib.cut s.data.toList h.data.toList).2.2])/\Below w.heap.size w w':=by
 obtain⟨m,D⟩:=y.mx;exact(Tryz.strings_Cut s h m w (by omega) D).mono fun _ _ ⟨h1,n,h2⟩=>⟨h1,by rw[h2];exact below_drewN (Below.refl _ _) _⟩
def QdI (s:ByteArray):List ByteArray:=Lib.splitB ⟨#[32]⟩ 0 (min 7 (s.size+1)-1) s
theorem Qkk (s:ByteArray) (w:World) (D:s.size<=1000000) (h:Env w):
 Calls Tryz.prog 85 #[.string s,.string ⟨#[32]⟩,.int .i64 7] w fun e w'=>e=.returned (.slice (some ⟨w.heap.size,0,none⟩) (QdI s).length (min 7 (s.size+1)))/\w'=w.alloc (.cells (Lib.cellsOf (QdI s) (min 7 (s.size+1))) 9):=by
 obtain⟨m,y⟩:=h.mx;exact Tryz.strings_SplitN s ⟨#[32]⟩ 7 m w (by omega) y (by decide) (by decide) (by decide)
theorem Qgn (h:ByteArray):∀(k:Nat) (s:ByteArray),(Lib.splitB h 0 k s).length<=k+1
 |0,s=>by simp[Lib.splitB]
 |k+1,s=>by
  unfold Lib.splitB;split
  ·simp
  ·simp;exact Qgn h k _
theorem Qfl (y:ByteArray):∀(k:Nat) (s:ByteArray),∀x∈Lib.splitB y 0 k s,x.size<=s.size
 |0,s=>by simp[Lib.splitB]
 |k+1,s=>by
  intro x h;unfold Lib.splitB at h;split at h
  ·simp at h;rw[h];exact Nat.le_refl _
  ·simp at h;rcases h with h|h
   ·rw[h];simp;omega
   ·have:=Qfl y k _ x h;simp at this;omega
theorem QlH (s:ByteArray):(QdI s).length<=min 7 (s.size+1):=by
 have:=Qgn ⟨#[32]⟩ (min 7 (s.size+1)-1) s;unfold QdI;omega
theorem Qkl (s x:ByteArray) (h:x∈QdI s):x.size<=s.size:=Qfl _ _ _ _ h
theorem Qkm {l:List ByteArray} {N j:Nat} (h:j<l.length):(Lib.cellsOf l N)[j]? =some (.string l[j]):=by
 simp[Lib.cellsOf,List.getElem?_append,h]
def Qgf (p:ByteArray):Cl:=(⟨(Lib.cut p.data.toList [58]).1.toArray⟩,QiM (Lib.cut p.data.toList [58]).2.1)
def colsOf (s:ByteArray):List Cl:=(QdI s).map Qgf
def Qal (cs:List Cl):List Value:=cs.flatMap fun c=>[.string c.1,.int .i64 c.2]
theorem QeJ (cs:List Cl):(Qal cs).length=cs.length*2:=by
 induction cs with
 |nil=>rfl
 |cons c r ih=>simp only[Qal,List.flatMap_cons,List.length_append,List.length_cons,List.length_nil] at ih⊢;omega
theorem Qfm (a b:List Cl):Qal (a++b)=Qal a++Qal b:=by simp[Qal]
theorem QdJ:∀(cs:List Cl) (j:Nat) (h:j<cs.length),(Qal cs)[j*2]? =some (.string cs[j].1)/\(Qal cs)[j*2+1]? =some (.int .i64 cs[j].2)
 |[],_,h=>absurd h (by simp)
 |c::r,0,_=>⟨rfl,rfl⟩
 |c::r,j+1,h=>by
  have:=QdJ r j (by simpa using h);have e:Qal (c::r)=.string c.1::.int .i64 c.2::Qal r:=by simp[Qal]
  rw[e,show(j+1)*2=j*2+1+1 by omega];simpa using this
theorem Qbm {w:World} {base:Nat} {v:Value} {cs:List Cl} (h:w.ownsRow base 64 2 v cs.length (Qal cs)) (F:∀x∈cs,x.1.size<=maxLen):Qax w v cs:=by
 have D:=h;obtain⟨-,h|⟨g,E,K,rfl,O,N,y,M,_,_⟩⟩:=h
 ·obtain⟨rfl,y⟩:=h;exact⟨none,0,by rw[y],by omega,F,Or.inl (List.length_eq_zero_iff.1 y)⟩
 ·refine⟨some ⟨g,0,none⟩,E,rfl,y,F,Or.inr ⟨g,0,rfl,(D.lt g rfl).2,fun j hj=>?_⟩⟩;have H:=QdJ cs j hj;have I:=D.cellAt (j*2) (by omega);have J:=D.cellAt (j*2+1) (by omega);rw[show 0+j*2=j*2 by omega];exact⟨I.trans H.1,J.trans H.2⟩
theorem Qfn (l h:List UInt8):(Lib.cut l h).1.length<=l.length/\(Lib.cut l h).2.1.length<=l.length:=by
 unfold Lib.cut;split
 ·simp;omega
 ·simp
def Qfo (e:Ending) (w':World) (B:Nat) (cs:List Cl):Prop:=
 if Qaj cs=true then∃v,e=.returned (.tuple #[v,.bool true])/\w'.ownsRow B 64 2 v cs.length (Qal cs)/\∀x∈cs,x.1.size<=maxLen else e=.returned (.tuple #[.slice none 0 0,.bool false])
theorem Tryz.infoCol:(Tryz.prog.info? 64).map (fun i=>(i.zero,i.size,i.bytes))=some (some (.agg #[.string ⟨#[]⟩,.int .i64 0]),2,24):=by kernel_rfl
theorem QdV (s:ByteArray) (w:World) (hs:s.size<=100000) (hE:Env w):
 Calls Tryz.prog 48 #[.string s] w fun e w'=>Below w.heap.size w w'/\Qfo e w' w.heap.size (colsOf s):=by
 obtain⟨i0,hi,aj,ak,ao⟩:=info_parts Tryz.infoCol;have HS:=Hk (Qkk s w (by omega) hE);have aa:=QlH s;have ad:=Qkl s;have V:=Hk ad;clear ad;generalize ah:QdI s=ps at*;have aq:=Hk ah;clear ah;have aJ:ps.length<=7:=by omega
 have aH:=Hk aa;have HE:=Hk hE;clear aa hE;go_enter Tryz.func48,Tryz.ntmps48;go_wp2_with (go_at_call 85;refine HS.out.mono ?_;rintro e w1 ⟨rfl,rfl⟩);have ag:Below w.heap.size w (w.alloc (.cells (Lib.cellsOf ps (min 7 (s.size+1))) 9)):=Qaa _ _;have av:∀j (h:j<ps.length),(w.alloc (.cells (Lib.cellsOf ps (min 7 (s.size+1))) 9)).cell? ⟨w.heap.size,j,none⟩=some (.string ps[j]):=fun j h=>by
  rw[World.cell?_alloc_at _ _ _ _ rfl];exact Qkm h
 have aw:=Hk (HE.out.below ag);have M:(w.alloc (.cells (Lib.cellsOf ps (min 7 (s.size+1))) 9)).heap.size=w.heap.size+1:=by simp
 generalize w.alloc (.cells (Lib.cellsOf ps (min 7 (s.size+1))) 9)=W at*;have N:=Hk M;clear M;go_loopw [4,13] (fun v i wr=>∃k:Nat,k<=ps.length/\i=.int .i64 k/\wr.ownsRow W.heap.size 64 2 v k (Qal ((ps.map Qgf).take k))/\Below W.heap.size W wr) (fun _ i _=>ps.length-(intOf i).toNat)
 case atStart=>exact⟨0,Nat.zero_le _,rfl,World.ownsRow_nil _ _ _ _,Below.refl _ _⟩
 case round=>
  obtain⟨k,hk,rfl,y,D⟩:=hrel
  by_cases hlt:k<ps.length
  ·have ax:w.heap.size<W.heap.size:=by have:=N.out;omega
   have d:=(D.cell (p:=⟨w.heap.size,k,none⟩) ax).trans (av k hlt);have aI:ps[k].size<=100000:=by have:=V.out _ (List.getElem_mem hlt);omega
   have ae:=Hk (aw.out.below D);go_wp2_with (first|(go_at_call 47;refine(Qfk _ _ _ (by omega) ae.out).mono ?_;rintro e w2 ⟨rfl,E⟩)|(go_at_call 86;refine(Qkj _ _ (ae.out.below E)).mono ?_;rintro e w3 ⟨rfl,rfl⟩)|(at_builtin;refine wpList_append_own _ rfl _ _ 51 rfl W.heap.size 64 i0 (.agg #[.string ⟨#[]⟩,.int .i64 0]) 2 24 Tryz.underlying51 hi aj ak ao rfl (by decide) _ _ _ rfl ((owns_below y E).alloc _) ⟨w3.heap.size,0,none⟩ 1 1 [.string (Qgf ps[k]).1,.int .i64 (Qgf ps[k]).2] rfl rfl ?c1 ?c2 ?c3 ?c4 ?c5 ?_))
   case c1=>
    intro j u F
    match j,F with
    |0,F=>simp at F;subst F;simp[Addr.add,Qgf]
    |1,F=>simp at F;subst F;simp[Addr.add,Qgf]
   case c2=>intro u hu;simp at hu;rcases hu with rfl|rfl<;>rfl
   case c3=>unfold maxLen;omega
   case c4=>omega
   case c5=>have:=D.size;have:=E.size;simp;omega
   ·intro v' w4 O U _;go_wp2;go_roundw
    case rel=>exact⟨k+1,by omega,by go_num,by rw[List.take_succ_eq_append_getElem (by simpa using hlt),Qfm,List.getElem_map];exact O,(((D.trans (E.mono D.size)).alloc (by have:=D.size;have:=E.size;omega) _).grown U (by have:=D.size;have:=E.size;simp;omega) (fun q hq=>(y.lt q hq).1))⟩
    case measure=>simp[intOf];omega
  ·have am:k=ps.length:=by omega
   subst am;rw[List.take_of_length_le (by simp)] at y;have ab:colsOf s=ps.map Qgf:=by rw[colsOf,aq.out]
   have K:∀x∈ps.map Qgf,x.1.size<=maxLen:=by
    intro x hx;rw[List.mem_map] at hx;obtain⟨p,hp,rfl⟩:=hx;have h1:=V.out p hp;have h2:=(Qfn p.data.toList [58]).1;simp at h2
    show(Lib.cut p.data.toList [58]).1.toArray.size<=maxLen
    unfold maxLen;simp;omega
   have J:=own_mono (show w.heap.size<=W.heap.size by have:=N.out;omega) y;have ac:Qax wr _ (ps.map Qgf):=Qbm (by rw[List.length_map];exact y) K;have HC:=Hk (Qb7 _ _ _ ac);have af:=Hk ab;have au:=Hk J;have HZ:=Hk K;clear ac ab y K J;have Z:Below w.heap.size w wr:=ag.trans (D.mono (by have:=N.out;omega));have I:=Hk Z;clear Z
   cases g:Qaj (ps.map Qgf)
   ·go_wp2_with (go_at_call 30;refine HC.out.mono ?_;rintro e w5 ⟨rfl,H⟩;rw[g])
    go_ret2
    refine⟨I.out.trans (H.mono I.out.size),?_⟩;rw[af.out,Qfo,if_neg (by simp[g])];rfl
   ·go_wp2_with (go_at_call 30;refine HC.out.mono ?_;rintro e w5 ⟨rfl,H⟩;rw[g])
    go_ret2
    refine⟨I.out.trans (H.mono I.out.size),?_⟩;rw[af.out,Qfo,if_pos g];exact⟨_,rfl,by rw[List.length_map];exact owns_below au.out H,HZ.out⟩
end Go.Proofs.YtjlgejennghhlaaGreatDoor
namespace Go.Proofs.YtjlgejennghhlaaGreatDoor
namespace Stb
open Go.Shelf Go.RowKit Go.Lib Go.Sort
variable {α:Type} [Inhabited α]
theorem sym_left (enc:α->Value) (E:α->α->Int) (g:Nat) (cb:Array Value) (blk D a1 a m b N:Nat) (x:α) (P R' S:List α) (d0:Array α) (J w:World) (eg:∀args w,(callFunc g args).run Tryz.prog w=.ok (.enter g args) w) (am:CmpLays1 Tryz.prog g cb enc E blk D d0.size J) (ho:Ord (ltOf E)) (R:Row1 enc J blk D d0) (hN:d0.size=N) (bt:N<4611686018427387904) (aa:(P++([x]++(R'++S))).length=N) (ha:P.length=a) (hm:m=a+1) (hb:b=m+R'.length) (sR:Sorted (ltOf E) R')
 (S0:SW enc J blk D (P++([x]++(R'++S))).toArray w):
 Calls Tryz.prog 202 #[.slice (some ⟨blk,D,none⟩) N a1,.int .i64 a,.int .i64 m,.int .i64 b,.func (.func g) #[] cb] w fun e w'=>e=.returned (.tuple #[])/\∃M,Sorted (ltOf E) M/\Same (ltOf E) ([x]++R') M/\SW enc J blk D (P++(M++S)).toArray w':=by
 have a5:Tryz.prog.follows .mixedOrders=true:=by kernel_rfl
 have aN:=R.hO.cells;simp only[Value.cells] at aN;have bx:=R.hO.store Tryz.prog;have HC:Aside _:=am;have aB:Aside (Ord (ltOf E)):=ho;obtain⟨l,hl⟩:∃q,q=P++([x]++(R'++S)):=⟨_,rfl⟩;have bB:l.toArray.size=N:=by rw[hl];simpa using aa
 have aQ:l.toArray[a]! =x:=by rw[hl];exact arr_at P (R'++S) x a ha.symm
 have HG:Aside (∀k,k<N->l[k]? =some (l.toArray[k]!)):=fun k hk=>arr_get l k (by simpa using (show k<l.toArray.size by omega))
 have bA:b<=N:=by
  have:P.length+(1+(R'.length+S.length))=N:=by simpa [Nat.add_comm,Nat.add_left_comm,Nat.add_assoc] using aa
  omega
 have a4:m<=b:=by omega
 have bv:a<m:=by omega
 have e1:(m:Int)-(a:Int)=1:=by omega
 have HS:Aside (SW enc J blk D l.toArray w/\(m=m\/∀y,l[m-1]? =some y->ltOf E y x=true)/\(b=b\/∀y,l[b]? =some y->ltOf E y x=false)):=⟨by rw[hl];exact S0,Or.inl rfl,Or.inl rfl⟩;have HL:Aside (l=P++([x]++(R'++S))/\P.length=a/\m=a+1/\b=m+R'.length/\(P++([x]++(R'++S))).length=N/\Sorted (ltOf E) R'):=⟨hl,ha,hm,hb,aa,sR⟩;clear S0 am ho hl ha hm hb aa sR;go_enter Tryz.func202,Tryz.ntmps202;go_wp2
 go_loopg [10,11] (b-m) (fun g1 vi vj wr=>∃i j:Nat,vi=.int .i64 i/\vj=.int .i64 j/\m<=i/\i<=j/\j<=b/\j-i<=g1/\Aside (SW enc J blk D l.toArray wr/\(i=m\/∀y,l[i-1]? =some y->ltOf E y x=true)/\(j=b\/∀y,l[j]? =some y->ltOf E y x=false)))
 case atStart=>exact⟨m,b,rfl,rfl,Nat.le_refl _,a4,Nat.le_refl _,by omega,⟨HS.out.1,Or.inl rfl,Or.inl rfl⟩⟩
 case round=>
  clear HS;obtain⟨i,j,rfl,rfl,aC,bw,aA,hg,H⟩:=hrel
  by_cases hlt:i<j
  ·have aK:(i:Int)<(j:Int):=by omega
   obtain⟨h,hh⟩:∃q,q=(i+j)/2:=⟨_,rfl⟩;have a0:i<=h:=by omega
   have bD:h<j:=by omega
   have eh:((i:Int)+(j:Int))/2=(h:Int):=by omega
   obtain⟨y,gx⟩:∃y,l.toArray[h]! =y:=⟨_,rfl⟩;have GH:Aside (l[h]? =some y):=by have:=HG.out h (by omega);rw[gx] at this;exact this
   have F:Aside (SW enc J blk D l.toArray wr):=H.out.1;have HI:Aside ((i=m\/∀y,l[i-1]? =some y->ltOf E y x=true)/\(j=b\/∀y,l[j]? =some y->ltOf E y x=false)):=H.out.2;have gy:=aQ;clear H hh;obtain⟨iN,K⟩:∃q,q=h:=⟨_,rfl⟩;obtain⟨jN,O⟩:∃q,q=a:=⟨_,rfl⟩;have ea:((h:Int)).toNat=iN:=by omega
   have pa:(0:Int)<=(h:Int):=by omega
   have ba:(h:Int)<(N:Int):=by omega
   have ra:IntKind.i64.wrap ((h:Int))=(h:Int):=by rw[IntKind.wrap_i64];omega
   have ec:((a:Int)).toNat=jN:=by omega
   have pc:(0:Int)<=(a:Int):=by omega
   have bc:(a:Int)<(N:Int):=by omega
   have rc:IntKind.i64.wrap ((a:Int))=(a:Int):=by rw[IntKind.wrap_i64];omega
   have la:=F.out.cl R (by omega) h (by omega);have lb:=F.out.cl R (by omega) a (by omega);rw[gx,<-K] at la;rw[gy,<-O] at lb;have hc:=F.out.cmp HC.out (by omega) y x;clear K O
   cases hlv:ltOf E y x with
   |true=>
    have hv:E y x<0:=of_decide_eq_true hlv;have hd:decide (E y x<0)=true:=decide_eq_true hv;have aq:Aside (ltOf E y x=true):=hlv;clear hlv;go_wp2_with fail
    try simp only[eh]
    go_quiet_grown (first|(go_at_fn g;refine Calls.grown_of (hc _ _)))
    have S2:Aside (SW enc J blk D l.toArray (grow (wr.drewN nq) osq)):=F.out.grown nq osq;clear la lb hc F;generalize grow (wr.drewN nq) osq=w2 at S2⊢;clear nq osq;clear ea ec;go_wp2
    go_roundg (j-(h+1))
    case measure=>omega
    case rel=>exact⟨h+1,j,by first|go_num|(congr 1;omega),rfl,by omega,by omega,aA,Nat.le_refl _,⟨S2.out,Or.inr (fun z hz=>by rw[Nat.add_sub_cancel,GH.out] at hz;cases hz;exact aq.out),HI.out.2⟩⟩
   |false=>
    have hv:¬E y x<0:=of_decide_eq_false hlv;have hd:decide (E y x<0)=false:=decide_eq_false hv;have aq:Aside (ltOf E y x=false):=hlv;clear hlv;go_wp2_with fail
    try simp only[eh]
    go_quiet_grown (first|(go_at_fn g;refine Calls.grown_of (hc _ _)))
    have S2:Aside (SW enc J blk D l.toArray (grow (wr.drewN nq) osq)):=F.out.grown nq osq;clear la lb hc F;generalize grow (wr.drewN nq) osq=w2 at S2⊢;clear nq osq;clear ea ec;go_wp2
    go_roundg (h-i)
    case measure=>omega
    case rel=>exact⟨i,h,rfl,by first|rfl|go_num|(congr 1;omega),aC,a0,by omega,Nat.le_refl _,⟨S2.out,HI.out.1,Or.inr (fun z hz=>by rw[GH.out] at hz;cases hz;exact aq.out)⟩⟩
  ·have hij':i=j:=by omega
   subst hij';have aK:¬(i:Int)<(i:Int):=by omega
   obtain⟨V,U,HR⟩:∃V U,Aside (R'=V++U/\V.length=i-m/\(∀y∈V,ltOf E y x=true)/\∀y∈U,ltOf E y x=false):=by
    obtain⟨k1,k2,k3,k4,k5,k6⟩:=HL.out;obtain⟨q1,q2,q3⟩:=H.out;rw[k1] at q2 q3;exact find_first aB.out k2 k3 (by omega) aC aA k6 q2 q3
   have ay:Aside (V=[]++V/\([]:List α).length=a-a/\SW enc J blk D (P++([]++x::(V++(U++S)))).toArray wr):=⟨rfl,by simp,by have:=H.out.1;rw[HL.out.1,HR.out.1] at this;simpa using this⟩;clear H;go_wp2
   go_loopg [13] (i-a) (fun g2 vk wr=>∃(k:Nat) (I R4:List α),vk=.int .i64 k/\a<=k/\k+1<=i/\i-k<=g2/\Aside (V=I++R4/\I.length=k-a/\SW enc J blk D (P++(I++x::(R4++(U++S)))).toArray wr))
   case atStart=>exact⟨a,[],V,rfl,Nat.le_refl _,by omega,by omega,ay⟩
   case round=>
    clear ay;obtain⟨k,I,R4,rfl,bC,bu,bE,HJ⟩:=hrel
    by_cases hlk:k+1<i
    ·have aE:(k:Int)<(i:Int)-1:=by omega
     obtain⟨y,R5,HY⟩:∃y R5,Aside (R4=y::R5):=by
      obtain⟨q1,q2,q3⟩:=HJ.out;have:=HR.out.2.1;rw[q1,List.length_append] at this;have hm:=HL.out.2.2.1
      cases R4 with
      |nil=>simp at this;omega
      |cons y l=>exact⟨y,l,rfl⟩
     obtain⟨dj,Z⟩:∃q,q=(P++(I++x::(R4++(U++S)))).toArray:=⟨_,rfl⟩;have ae:k=(P++I).length:=by rw[List.length_append,HL.out.2.1,HJ.out.2.1];omega
     have bz:dj.size=N:=by
      have:=HL.out.2.2.2.2.1;rw[HR.out.1,HJ.out.1] at this;rw[Z,<-this];simp;omega
     have gx:dj[k]! =x:=by
      rw[Z];have:=arr_at (P++I) (R4++(U++S)) x k ae;simpa using this
     have gy:dj[k+1]! =y:=by
      rw[Z,HY.out];have:=arr_at (P++(I++[x])) (R5++(U++S)) y (k+1) (by rw[ae];simp;omega);simpa using this
     have gs:swp dj k (k+1)=(P++((I++[y])++x::(R5++(U++S)))).toArray:=by
      rw[Z,HY.out];have:=swp_list (P++I) [] (R5++(U++S)) x y k (k+1) ae (by rw[ae];simp);simpa using this
     have F:Aside (SW enc J blk D dj wr):=by rw[Z];exact HJ.out.2.2
     have az:Aside (V=I++R4/\I.length=k-a):=⟨HJ.out.1,HJ.out.2.1⟩;clear Z HJ ae;obtain⟨iN,K⟩:∃q,q=k:=⟨_,rfl⟩;obtain⟨jN,O⟩:∃q,q=(k+1):=⟨_,rfl⟩;have ea:((k:Int)).toNat=iN:=by omega
     have pa:(0:Int)<=(k:Int):=by omega
     have ba:(k:Int)<(N:Int):=by omega
     have ra:IntKind.i64.wrap ((k:Int))=(k:Int):=by rw[IntKind.wrap_i64];omega
     have ec:(((k:Int)+1)).toNat=jN:=by omega
     have pc:(0:Int)<=((k:Int)+1):=by omega
     have bc:((k:Int)+1)<(N:Int):=by omega
     have rc:IntKind.i64.wrap (((k:Int)+1))=((k:Int)+1):=by rw[IntKind.wrap_i64];omega
     have S3:Aside (SW enc J blk D (swp dj k (k+1)) ((wr.setCell ⟨blk,D+iN,none⟩ (enc y)).setCell ⟨blk,D+jN,none⟩ (enc x)).drew):=by
      have:=F.out.swapped R k (k+1) (by omega) (by omega);rw[gx,gy] at this;rw[K,O];exact this
     have ca:wr.cell? ⟨blk,D+iN,none⟩=some (enc x):=by rw[K];have:=F.out.c1 R (by omega) k (by omega);rw[gx] at this;exact this
     have cb':wr.cell? ⟨blk,D+jN,none⟩=some (enc y):=by rw[O];have:=F.out.c1 R (by omega) (k+1) (by omega);rw[gy] at this;exact this
     have fa:wr.frozen? ⟨blk,D+iN,none⟩=false:=by rw[K];exact F.out.f1 R (by omega) k (by omega)
     have fb:wr.frozen? ⟨blk,D+jN,none⟩=false:=by rw[O];exact F.out.f1 R (by omega) (k+1) (by omega)
     obtain⟨u,cc⟩:∃u,(wr.setCell ⟨blk,D+iN,none⟩ (enc y)).cell? ⟨blk,D+jN,none⟩=some u:=by rw[K,O];exact F.out.c2 R (by omega) k (k+1) (by omega) (by omega) (enc y)
     have GS:Aside (swp dj k (k+1)=(P++((I++[y])++x::(R5++(U++S)))).toArray):=gs;clear F gx gy gs K O;go_wp2_with fail
     go_big_region_o
     clear ca cb' cc fa fb;generalize ((wr.setCell ⟨blk,D+iN,none⟩ (enc y)).setCell ⟨blk,D+jN,none⟩ (enc x)).drew=w3 at S3⊢;clear ea ec;go_wp2
     go_roundg (i-(k+1))
     case measure=>omega
     case rel=>exact⟨k+1,I++[y],R5,by go_num,by omega,by omega,by omega,by rw[az.out.1,HY.out];simp,by rw[List.length_append,az.out.2];simp;omega,by have:=S3.out;rw[GS.out] at this;exact this⟩
    ·have aE:¬(k:Int)<(i:Int)-1:=by omega
     go_wp2
     try simp only[Exit.inBlock,Exit.then]
     refine bodyPost_ret (results_none rfl _ _ _) rfl ?_;obtain⟨q1,q2,q3⟩:=HJ.out;obtain⟨k1,k2,k3,k4,k5,k6⟩:=HL.out;obtain⟨r1,r2,r3,r4⟩:=HR.out;have h4:R4=[]:=List.length_eq_zero_iff.1 (by rw[q1,List.length_append] at r2;omega);rw[h4,List.append_nil] at q1;rw[h4,<-q1] at q3;obtain⟨p1,p2⟩:=put_first aB.out (r1▸k6) r3 r4;exact⟨rfl,V++x::U,p1,by rw[r1];simpa using p2,by simpa using q3⟩
end Stb
end Go.Proofs.YtjlgejennghhlaaGreatDoor
namespace Go.Proofs.YtjlgejennghhlaaGreatDoor
namespace Stb
open Go.Shelf Go.RowKit Go.Lib Go.Sort
variable {α:Type} [Inhabited α]
theorem sym_right (enc:α->Value) (F:α->α->Int) (g:Nat) (cb:Array Value) (blk D a3 a m b N:Nat) (x:α) (P L S:List α) (d0:Array α) (K w:World) (eg:∀args w,(callFunc g args).run Tryz.prog w=.ok (.enter g args) w) (ar:CmpLays1 Tryz.prog g cb enc F blk D d0.size K) (ho:Ord (ltOf F)) (R:Row1 enc K blk D d0) (hN:d0.size=N) (bu:N<4611686018427387904) (ad:(P++(L++([x]++S))).length=N) (ha:P.length=a) (hm:m=a+L.length) (hb:b=m+1) (h2:2<=L.length) (sL:Sorted (ltOf F) L)
 (S0:SW enc K blk D (P++(L++([x]++S))).toArray w):
 Calls Tryz.prog 202 #[.slice (some ⟨blk,D,none⟩) N a3,.int .i64 a,.int .i64 m,.int .i64 b,.func (.func g) #[] cb] w fun e w'=>e=.returned (.tuple #[])/\∃M,Sorted (ltOf F) M/\Same (ltOf F) (L++[x]) M/\SW enc K blk D (P++(M++S)).toArray w':=by
 have a5:Tryz.prog.follows .mixedOrders=true:=by kernel_rfl
 have aN:=R.hO.cells;simp only[Value.cells] at aN;have bz:=R.hO.store Tryz.prog;have HC:Aside _:=ar;have aE:Aside (Ord (ltOf F)):=ho;obtain⟨l,hl⟩:∃q,q=P++(L++([x]++S)):=⟨_,rfl⟩;have bC:l.toArray.size=N:=by rw[hl];simpa using ad
 have aQ:l.toArray[m]! =x:=by rw[hl];have:=arr_at (P++L) S x m (by rw[List.length_append];omega);simpa using this
 have HG:Aside (∀k,k<N->l[k]? =some (l.toArray[k]!)):=fun k hk=>arr_get l k (by simpa using (show k<l.toArray.size by omega))
 have bB:b<=N:=by
  have:P.length+(L.length+(1+S.length))=N:=by simpa [Nat.add_comm,Nat.add_left_comm,Nat.add_assoc] using ad
  omega
 have bw:a<m:=by omega
 have bH:m<b:=by omega
 have e1:¬((m:Int)-(a:Int)=1):=by omega
 have e2:(b:Int)-(m:Int)=1:=by omega
 have HS:Aside (SW enc K blk D l.toArray w/\(a=a\/∀y,l[a-1]? =some y->ltOf F x y=false)/\(m=m\/∀y,l[m]? =some y->ltOf F x y=true)):=⟨by rw[hl];exact S0,Or.inl rfl,Or.inl rfl⟩;have HL:Aside (l=P++(L++([x]++S))/\P.length=a/\m=a+L.length/\(P++(L++([x]++S))).length=N/\Sorted (ltOf F) L):=⟨hl,ha,hm,ad,sL⟩;clear S0 ar ho hl ha hm hb ad sL h2;go_enter Tryz.func202,Tryz.ntmps202;go_wp2
 go_loopg [14,15] (m-a) (fun g1 vi vj wr=>∃i j:Nat,vi=.int .i64 i/\vj=.int .i64 j/\a<=i/\i<=j/\j<=m/\j-i<=g1/\Aside (SW enc K blk D l.toArray wr/\(i=a\/∀y,l[i-1]? =some y->ltOf F x y=false)/\(j=m\/∀y,l[j]? =some y->ltOf F x y=true)))
 case atStart=>exact⟨a,m,rfl,rfl,Nat.le_refl _,by omega,Nat.le_refl _,by omega,⟨HS.out.1,Or.inl rfl,Or.inl rfl⟩⟩
 case round=>
  clear HS;obtain⟨i,j,rfl,rfl,aF,bx,au,hg,H⟩:=hrel
  by_cases hlt:i<j
  ·have aL:(i:Int)<(j:Int):=by omega
   obtain⟨h,hh⟩:∃q,q=(i+j)/2:=⟨_,rfl⟩;have a2:i<=h:=by omega
   have bE:h<j:=by omega
   have eh:((i:Int)+(j:Int))/2=(h:Int):=by omega
   obtain⟨y,gy⟩:∃y,l.toArray[h]! =y:=⟨_,rfl⟩;have GH:Aside (l[h]? =some y):=by have:=HG.out h (by omega);rw[gy] at this;exact this
   have I:Aside (SW enc K blk D l.toArray wr):=H.out.1;have HI:Aside ((i=a\/∀y,l[i-1]? =some y->ltOf F x y=false)/\(j=m\/∀y,l[j]? =some y->ltOf F x y=true)):=H.out.2;have gx:=aQ;clear H hh;obtain⟨iN,O⟩:∃q,q=m:=⟨_,rfl⟩;obtain⟨jN,U⟩:∃q,q=h:=⟨_,rfl⟩;have ea:((m:Int)).toNat=iN:=by omega
   have pa:(0:Int)<=(m:Int):=by omega
   have ba:(m:Int)<(N:Int):=by omega
   have ra:IntKind.i64.wrap ((m:Int))=(m:Int):=by rw[IntKind.wrap_i64];omega
   have ec:((h:Int)).toNat=jN:=by omega
   have pc:(0:Int)<=(h:Int):=by omega
   have bc:(h:Int)<(N:Int):=by omega
   have rc:IntKind.i64.wrap ((h:Int))=(h:Int):=by rw[IntKind.wrap_i64];omega
   have la:=I.out.cl R (by omega) m (by omega);have lb:=I.out.cl R (by omega) h (by omega);rw[gx,<-O] at la;rw[gy,<-U] at lb;have hc:=I.out.cmp HC.out (by omega) x y;clear O U
   cases hlv:ltOf F x y with
   |true=>
    have hv:F x y<0:=of_decide_eq_true hlv;have hd:decide (F x y<0)=true:=decide_eq_true hv;have aw:Aside (ltOf F x y=true):=hlv;clear hlv;go_wp2_with fail
    try simp only[eh]
    go_quiet_grown (first|(go_at_fn g;refine Calls.grown_of (hc _ _)))
    have S2:Aside (SW enc K blk D l.toArray (grow (wr.drewN nq) osq)):=I.out.grown nq osq;clear la lb hc I;generalize grow (wr.drewN nq) osq=w2 at S2⊢;clear nq osq;clear ea ec;go_wp2
    go_roundg (h-i)
    case measure=>omega
    case rel=>exact⟨i,h,rfl,by first|rfl|go_num|(congr 1;omega),aF,a2,by omega,Nat.le_refl _,⟨S2.out,HI.out.1,Or.inr (fun z hz=>by rw[GH.out] at hz;cases hz;exact aw.out)⟩⟩
   |false=>
    have hv:¬F x y<0:=of_decide_eq_false hlv;have hd:decide (F x y<0)=false:=decide_eq_false hv;have aw:Aside (ltOf F x y=false):=hlv;clear hlv;go_wp2_with fail
    try simp only[eh]
    go_quiet_grown (first|(go_at_fn g;refine Calls.grown_of (hc _ _)))
    have S2:Aside (SW enc K blk D l.toArray (grow (wr.drewN nq) osq)):=I.out.grown nq osq;clear la lb hc I;generalize grow (wr.drewN nq) osq=w2 at S2⊢;clear nq osq;clear ea ec;go_wp2
    go_roundg (j-(h+1))
    case measure=>omega
    case rel=>exact⟨h+1,j,by first|go_num|(congr 1;omega),rfl,by omega,by omega,au,Nat.le_refl _,⟨S2.out,Or.inr (fun z hz=>by rw[Nat.add_sub_cancel,GH.out] at hz;cases hz;exact aw.out),HI.out.2⟩⟩
  ·have hij':i=j:=by omega
   subst hij';have aL:¬(i:Int)<(i:Int):=by omega
   obtain⟨J,L2,HR⟩:∃J L2,Aside (L=J++L2/\J.length=i-a/\(∀y∈J,ltOf F x y=false)/\∀y∈L2,ltOf F x y=true):=by
    obtain⟨k1,k2,k3,k4,k5⟩:=HL.out;obtain⟨q1,q2,q3⟩:=H.out;rw[k1] at q2 q3;exact find_last aE.out k2 (by omega) aF au k5 q2 q3
   have aD:Aside (L2=L2++[]/\L2.length=m-i/\SW enc K blk D (P++(J++(L2++x::([]++S)))).toArray wr):=⟨by simp,by have:=HL.out.2.2.1;rw[HR.out.1,List.length_append,HR.out.2.1] at this;omega,by have:=H.out.1;rw[HL.out.1,HR.out.1] at this;simpa using this⟩;clear H;go_wp2
   go_loopg [17] (m-i) (fun g2 vk wr=>∃(k:Nat) (V Z:List α),vk=.int .i64 k/\i<=k/\k<=m/\k-i<=g2/\Aside (L2=V++Z/\V.length=k-i/\SW enc K blk D (P++(J++(V++x::(Z++S)))).toArray wr))
   case atStart=>exact⟨m,L2,[],rfl,au,Nat.le_refl _,Nat.le_refl _,aD⟩
   case round=>
    clear aD;obtain⟨k,V,Z,rfl,bD,bv,bG,HJ⟩:=hrel
    by_cases hlk:i<k
    ·have aH:(i:Int)<(k:Int):=by omega
     obtain⟨E,aC⟩:∃q,q+1=k:=⟨k-1,by omega⟩;have bF:(k:Int)=(E:Int)+1:=by omega
     have hlkz':(i:Int)<(E:Int)+1:=by omega
     obtain⟨L5,y,HY⟩:∃L5 y,Aside (V=L5++[y]/\L5.length=E-i):=by
      obtain⟨q1,q2,q3⟩:=HJ.out;have aB:V≠[]:=by intro e;rw[e] at q2;simp at q2;omega
      exact⟨V.dropLast,V.getLast aB,(List.dropLast_concat_getLast aB).symm,by rw[List.length_dropLast];omega⟩
     obtain⟨dj,ac⟩:∃q,q=(P++(J++(V++x::(Z++S)))).toArray:=⟨_,rfl⟩;have ag:E=(P++(J++L5)).length:=by rw[List.length_append,List.length_append,HL.out.2.1,HR.out.2.1,HY.out.2];omega
     have bA:dj.size=N:=by
      have:=HL.out.2.2.2.1;rw[HR.out.1,HJ.out.1] at this;rw[ac,<-this];simp;omega
     have gx:dj[k]! =x:=by
      rw[ac,HY.out.1];have:=arr_at (P++(J++(L5++[y]))) (Z++S) x k (by rw[<-aC,ag];simp;omega);simpa using this
     have gy:dj[E]! =y:=by
      rw[ac,HY.out.1];have:=arr_at (P++(J++L5)) (x::(Z++S)) y E ag;simpa using this
     have gs:swp dj k E=(P++(J++(L5++x::((y::Z)++S)))).toArray:=by
      rw[ac,HY.out.1];have:=swp_list' (P++(J++L5)) [] (Z++S) y x E k ag (by rw[<-aC,ag];simp);simpa using this
     have I:Aside (SW enc K blk D dj wr):=by rw[ac];exact HJ.out.2.2
     have aT:Aside (L2=V++Z):=HJ.out.1;clear ac HJ ag;obtain⟨iN,O⟩:∃q,q=k:=⟨_,rfl⟩;obtain⟨jN,U⟩:∃q,q=E:=⟨_,rfl⟩;have ea:(((E:Int)+1)).toNat=iN:=by omega
     have pa:(0:Int)<=((E:Int)+1):=by omega
     have ba:((E:Int)+1)<(N:Int):=by omega
     have ra:IntKind.i64.wrap (((E:Int)+1))=((E:Int)+1):=by rw[IntKind.wrap_i64];omega
     have ec:((E:Int)).toNat=jN:=by omega
     have pc:(0:Int)<=(E:Int):=by omega
     have bc:(E:Int)<(N:Int):=by omega
     have rc:IntKind.i64.wrap ((E:Int))=(E:Int):=by rw[IntKind.wrap_i64];omega
     have S3:Aside (SW enc K blk D (swp dj k E) ((wr.setCell ⟨blk,D+iN,none⟩ (enc y)).setCell ⟨blk,D+jN,none⟩ (enc x)).drew):=by
      have:=I.out.swapped R k E (by omega) (by omega);rw[gx,gy] at this;rw[O,U];exact this
     have ca:wr.cell? ⟨blk,D+iN,none⟩=some (enc x):=by rw[O];have:=I.out.c1 R (by omega) k (by omega);rw[gx] at this;exact this
     have cb':wr.cell? ⟨blk,D+jN,none⟩=some (enc y):=by rw[U];have:=I.out.c1 R (by omega) E (by omega);rw[gy] at this;exact this
     have fa:wr.frozen? ⟨blk,D+iN,none⟩=false:=by rw[O];exact I.out.f1 R (by omega) k (by omega)
     have fb:wr.frozen? ⟨blk,D+jN,none⟩=false:=by rw[U];exact I.out.f1 R (by omega) E (by omega)
     obtain⟨u,cc⟩:∃u,(wr.setCell ⟨blk,D+iN,none⟩ (enc y)).cell? ⟨blk,D+jN,none⟩=some u:=by rw[O,U];exact I.out.c2 R (by omega) k E (by omega) (by omega) (enc y)
     have GS:Aside (swp dj k E=(P++(J++(L5++x::((y::Z)++S)))).toArray):=gs;clear I gx gy gs O U;go_wp2_with fail
     go_big_region_o
     clear ca cb' cc fa fb;generalize ((wr.setCell ⟨blk,D+iN,none⟩ (enc y)).setCell ⟨blk,D+jN,none⟩ (enc x)).drew=w3 at S3⊢;clear ea ec;go_wp2
     go_roundg (E-i)
     case measure=>omega
     case rel=>exact⟨E,L5,y::Z,by first|rfl|go_num|(congr 1;omega),by omega,by omega,by omega,by rw[aT.out,HY.out.1];simp,HY.out.2,by have:=S3.out;rw[GS.out] at this;exact this⟩
    ·have aH:¬(i:Int)<(k:Int):=by omega
     go_wp2
     try simp only[Exit.inBlock,Exit.then]
     refine bodyPost_ret (results_none rfl _ _ _) rfl ?_;obtain⟨q1,q2,q3⟩:=HJ.out;obtain⟨k1,k2,k3,k4,k5⟩:=HL.out;obtain⟨r1,r2,r3,r4⟩:=HR.out;have h4:V=[]:=List.length_eq_zero_iff.1 (by omega);rw[h4,List.nil_append] at q1;rw[h4,<-q1] at q3;obtain⟨p1,p2⟩:=put_one aE.out (r1▸k5) r4 r3;exact⟨rfl,J++x::L2,p1,by rw[r1];exact p2,by simpa using q3⟩
end Stb
end Go.Proofs.YtjlgejennghhlaaGreatDoor
