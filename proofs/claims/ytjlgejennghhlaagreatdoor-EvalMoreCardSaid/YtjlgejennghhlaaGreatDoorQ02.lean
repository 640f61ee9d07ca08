import Derived.Lib.SmallJoins
import Derived.Test.YtjlgejennghhlaaGreatDoorQ01
set_option linter.unusedSimpArgs false
set_option linter.unusedVariables false
set_option linter.unusedSectionVars false
set_option maxRecDepth 1000000
set_option maxHeartbeats 16000000
namespace Go.Proofs.YtjlgejennghhlaaGreatDoor
open Go.RowKit
theorem Qht (u H:Value) (h:List Vl) (cs:List Cl) (w:World) (y:Qcw w u h) (D:Qax w H cs) (K:1<=cs.length) (Z:cs.length<=6):
 Calls Tryz.prog 31 #[u,H] w fun e w'=>e=.returned (.bool (QaO h cs))/\Below w.heap.size w w':=by
 obtain⟨a,c,rfl,U,y⟩:=y;obtain⟨a',N,rfl,_,_,D⟩:=D
 by_cases hl:h.length=cs.length
 ·rcases D with D|⟨O,V,rfl,J,F⟩
  ·rw[D] at K;simp at K
  ·rcases y with y|⟨b,o,rfl,I,M⟩
   ·rw[y] at hl;simp at hl;omega
   ·rw[<-hl];exact Qix b o c O V N h.length h cs w rfl hl.symm (by omega) I J M F U
 ·rw[Qdl h cs hl];exact QgM _ _ _ _ _ _ _ hl
def Qae (cs:List Cl) (rs:List (List Vl)):Bool:=Qai cs&&(decide (rs.length<=60)&&rs.all fun r=>QaO r cs)
theorem Qbq {cs:List Cl} (h:Qai cs=true):1<=cs.length/\cs.length<=6:=by
 simp[Qai] at h;exact⟨by omega,h.2.1⟩
theorem all_step {p:List Vl->Bool} {rs:List (List Vl)} {k:Nat} (h:k<rs.length) (D:(rs.take k).all p=true) (y:p rs[k]=true):(rs.take (k+1)).all p=true:=by
 rw[List.take_succ_eq_append_getElem h,List.all_append,D];simp[y]
theorem Qlq {p:List Vl->Bool} {rs:List (List Vl)} {k:Nat} (h:k<rs.length) (y:p rs[k]=false):rs.all p=false:=by
 rw[List.all_eq_false];exact⟨_,List.getElem_mem h,by simp[y]⟩
theorem right_any (U O:Value) (cs:List Cl) (rs:List (List Vl)) (w:World) (hc:Qax w U cs) (hr:QaG w O rs):
 Calls Tryz.prog 13 #[.agg #[U,O]] w fun e w'=>e=.returned (.bool (Qae cs rs))/\Below w.heap.size w w':=by
 have H:=hc.below (Qaa w (.cells #[U,O] 54));have Z:=hr.below (Qaa w (.cells #[U,O] 54));obtain⟨a,c,rfl,-,-,-⟩:=hc;obtain⟨a',c',rfl,-⟩:=hr
 cases g1:Qai cs
 ·have I:Hid (Qae cs rs=false):=by show Qae cs rs=false;simp[Qae,g1]
  have F:=Qb5 _ cs _ H;simp only[g1] at F;have N:=Hk F;clear F H Z;go_enter Tryz.func13,Tryz.ntmps13;go_wp2_with (go_at_call 30;refine N.out.mono ?_;rintro e w' ⟨rfl,y⟩);go_ret;exact⟨ret_bool I.out.symm,(Qaa _ _).trans (y.mono (by simp))⟩
 ·obtain⟨h1,h6⟩:=Qbq g1;have F:=Qb5 _ cs _ H;simp only[g1] at F;have N:=Hk F;clear F
  by_cases h60:rs.length<=60
  ·have I:Hid (Qae cs rs=rs.all fun r=>QaO r cs):=by show _=_;simp[Qae,g1,h60]
   have ac:¬((60:Int)<(rs.length:Int)):=by omega
   go_enter Tryz.func13,Tryz.ntmps13;go_wp2_with (go_at_call 30;refine N.out.mono ?_;rintro e M ⟨rfl,y⟩;obtain⟨V,ab⟩:=QaP y);have am:=H.below y;have ak:=Z.below y;have hz:w.heap.size+1<=M.heap.size:=by have:=y.size;simpa using this
   go_loopw [18] (fun i wr=>∃k:Nat,k<=rs.length/\i=.int .i64 k/\(rs.take k).all (fun r=>QaO r cs)=true/\Below M.heap.size M wr) (fun i _=>rs.length-(intOf i).toNat)
   case atStart=>exact⟨0,Nat.zero_le _,rfl,rfl,Below.refl _ _⟩
   case round=>
    obtain⟨k,hk,rfl,aa,h⟩:=hrel;have HA:=Hk aa;clear aa;have t1:wr.cell? ⟨w.heap.size,0,none⟩=some (.slice a cs.length c):=(h.cell (p:=⟨w.heap.size,0,none⟩) (by exact hz)).trans ((V _ _ (by simp)).trans (by simp))
    by_cases hlt:k<rs.length
    ·obtain⟨a2,c2,e2,D⟩:=ak;rcases D with D|⟨rb,ro,rfl,ai,D⟩
     ·rw[D] at hlt;simp at hlt
     ·simp only[Value.slice.injEq] at e2;obtain⟨rfl,-,rfl⟩:=e2;obtain⟨u,hu,K⟩:=D k hlt;have hu':=cK h ai hu;have hq:=Qht u (.slice a cs.length c) rs[k] cs wr (K.below h) (am.below h) h1 h6;obtain⟨a3,c3,rfl,-,-⟩:=K;have HQ:=Hk hq;clear hq hu
      cases g2:QaO rs[k] cs
      ·go_wp2_with (go_at_call 31;refine HQ.out.mono ?_;rintro e w2 ⟨rfl,J⟩);go_ret;exact⟨ret_bool (by rw[I.out];exact(Qlq (p:=fun r=>QaO r cs) hlt g2).symm),(Qaa _ _).trans ((y.mono (by simp)).trans ((h.mono (by omega)).trans (J.mono (by have:=h.size;omega))))⟩
      ·go_wp2_with (go_at_call 31;refine HQ.out.mono ?_;rintro e w2 ⟨rfl,J⟩);go_roundw
       case rel=>exact⟨k+1,by omega,by go_num,all_step (p:=fun r=>QaO r cs) hlt HA.out g2,h.trans (J.mono h.size)⟩
       case measure=>simp[intOf];omega
    ·go_wp2;go_ret;exact⟨ret_bool (by have:=HA.out;rw[List.take_of_length_le (by omega)] at this;rw[I.out];exact this.symm),(Qaa _ _).trans ((y.mono (by simp)).trans (h.mono (by omega)))⟩
  ·have I:Hid (Qae cs rs=false):=by show _=_;simp[Qae,h60]
   have ac:(60:Int)<(rs.length:Int):=by omega
   go_enter Tryz.func13,Tryz.ntmps13;go_wp2_with (go_at_call 30;refine N.out.mono ?_;rintro e M ⟨rfl,y⟩;obtain⟨V,ab⟩:=QaP y);go_ret;exact⟨ret_bool I.out.symm,(Qaa _ _).trans (y.mono (by simp))⟩
structure Env (w:World):Prop where
 size:∀g,g∈[4,2,6,7,10]->g<w.heap.size
 mx:∃m,w.cell? ⟨4,0,none⟩=some (.int .i64 m)
 k0:w.cell? ⟨2,0,none⟩=some (.string ⟨#[]⟩)
 k1:w.cell? ⟨2,1,none⟩=some (.string ⟨#[105,110,116]⟩)
 k2:w.cell? ⟨2,2,none⟩=some (.string ⟨#[116,101,120,116]⟩)
 es:∃tp p,w.var? Tryz.prog "strconv.ErrSyntax"=some #[.iface tp p]
 er:∃tp p,w.var? Tryz.prog "strconv.ErrRange"=some #[.iface tp p]
 pw:Lib.TabIs Tryz.prog w "internal/strconv.uint64pow10" .u64 Lib.pow10Tab
theorem Env.below {w w':World} (h:Env w) (y:Below w.heap.size w w'):Env w':=by
 have D:=h.size;refine⟨fun g hg=>Nat.lt_of_lt_of_le (h.size g hg) y.size,?_,?_,?_,?_,?_,?_,?_⟩
 ·obtain⟨m,I⟩:=h.mx;exact⟨m,cK y (D _ (by simp)) I⟩
 ·exact cK y (D _ (by simp)) h.k0
 ·exact cK y (D _ (by simp)) h.k1
 ·exact cK y (D _ (by simp)) h.k2
 ·obtain⟨H,p,F⟩:=h.es;exact⟨H,p,var?_below (g:=6) y (by kernel_rfl) (D _ (by simp)) F⟩
 ·obtain⟨H,p,F⟩:=h.er;exact⟨H,p,var?_below (g:=7) y (by kernel_rfl) (D _ (by simp)) F⟩
 ·exact var?_below (g:=10) y (by kernel_rfl) (D _ (by simp)) h.pw
theorem Qiy (w:World) (k:Nat) (os:Array Obj):Below w.heap.size w (Sort.grow (w.drewN k) os):=
 ⟨rfl,rfl,rfl,by simp[Sort.grow,World.drewN],fun k hk=>by simp[Sort.grow,World.drewN,Array.getElem?_append,hk]⟩
theorem Qja {x:ByteArray} {l:List UInt8} (h:x.data.toList=l):Ending.returned (.string x)=.returned (.string ⟨l.toArray⟩):=by rw[Qgi h]
def Qb1 (k n:Int) (l:List UInt8):List UInt8:=if k=1 then Lib.itoa n else 39::(l++[39])
theorem Qfh (k n:Int) (s:ByteArray) (w:World) (M:s.size<=1000) (H: -9223372036854775808<=n) (F:n<=9223372036854775807) (h:Env w):
 Calls Tryz.prog 122 #[.agg #[.int .i64 k,.int .i64 n,.string s]] w fun e w'=>e=.returned (.string ⟨(Qb1 k n s.data.toList).toArray⟩)/\Below w.heap.size w w':=by
 have D:=Tryz.strconv_Itoa n H F (w.alloc (.cells #[.int .i64 k,.int .i64 n,.string s] 46)) (h.below (Qaa _ _)).pw;have HI:=Hk D;have K:=Hk h;clear D h
 cases g:(k==1)
 ·have y:Hid (Qb1 k n s.data.toList=39::(s.data.toList++[39])):=by show _=_;simp at g;simp[Qb1,g]
  clear HI H F;go_enter Tryz.func122,Tryz.ntmps122;go_wp2;go_ret;exact⟨Qja (by rw[y.out];simp),Qaa _ _⟩
 ·have y:Hid (Qb1 k n s.data.toList=Lib.itoa n):=by show _=_;simp at g;simp[Qb1,g]
  go_enter Tryz.func122,Tryz.ntmps122;go_wp2_with (go_at_call 166;refine HI.out.mono ?_;rintro e w' ⟨rfl,J,I,rfl⟩);go_ret;refine⟨Qja (by rw[y.out]),(Qaa _ _).trans ((Qiy _ _ _).mono (by simp))⟩
theorem QrN {s:ByteArray} (h:s.toList.isEmpty=true):s.data.toList=[]:=by rw[ByteArray.toList_eq,List.isEmpty_iff] at h;exact h
theorem QrO {s:ByteArray} (h:s.toList.isEmpty=false):s.data.toList≠[]:=by
 rw[ByteArray.toList_eq] at h;intro e;rw[e] at h;simp at h
theorem QrD {l:List UInt8} {s:ByteArray} (h:(l==s.toList)=true):s.data.toList=l:=by rw[ByteArray.toList_eq] at h;exact(beq_iff_eq.1 h).symm
theorem QrE {l:List UInt8} {s:ByteArray} (h:(l==s.toList)=false):s.data.toList≠l:=by
 rw[ByteArray.toList_eq] at h;intro e;rw[e] at h;simp at h
def Qiz (l:List UInt8):Int:=if l=[105,110,116] then 1 else if l=[116,101,120,116] then 2 else 0
theorem Qj7 (s:ByteArray) (w:World) (h:Env w):
 Calls Tryz.prog 86 #[.string s] w fun e w'=>e=.returned (.int .i64 (Qiz s.data.toList))/\w'=w:=by
 have k0:=h.k0;have k1:=h.k1;have k2:=h.k2;clear h;go_enter Tryz.func86,Tryz.ntmps86;go_wp2
 go_loop [4] (fun i=>∃k:Nat,k<=3/\i=.int .i64 k/\(1<=k->s.data.toList≠[])/\(2<=k->s.data.toList≠[105,110,116])/\(3<=k->s.data.toList≠[116,101,120,116])) (fun i=>3-(intOf i).toNat)
 case atStart=>exact⟨0,by omega,rfl,by omega,by omega,by omega⟩
 case round=>
  obtain⟨k,K,rfl,I,y,D⟩:=hrel;have H:=Hk I;have F:=Hk y;have J:=Hk D;clear I y D;rcases(show k=0\/k=1\/k=2\/k=3 by omega) with rfl|rfl|rfl|rfl
  ·cases e:s.toList.isEmpty
   ·go_wp2
    go_round
    case rel=>exact⟨1,by omega,rfl,fun _=>QrO e,by omega,by omega⟩
    case measure=>simp[intOf]
   ·go_wp2;go_ret;exact⟨Qby (by rw[QrN e];rfl),rfl⟩
  ·cases e:([105,110,116]==s.toList)
   ·go_wp2
    go_round
    case rel=>exact⟨2,by omega,rfl,fun _=>H.out (by omega),fun _=>QrE e,by omega⟩
    case measure=>simp[intOf]
   ·go_wp2;go_ret;exact⟨Qby (by rw[QrD e];rfl),rfl⟩
  ·cases e:([116,101,120,116]==s.toList)
   ·go_wp2
    go_round
    case rel=>exact⟨3,by omega,rfl,fun _=>H.out (by omega),fun _=>F.out (by omega),fun _=>QrE e⟩
    case measure=>simp[intOf]
   ·go_wp2;go_ret;exact⟨Qby (by rw[QrD e];rfl),rfl⟩
  ·go_wp2;go_ret;exact⟨Qby (by have y:=F.out (by omega);have D:=J.out (by omega);simp[Qiz,y,D]),rfl⟩
def Qc8 (l:List UInt8):Int×Int×List UInt8:=
 if Lib.hasPrefix l [39] then(2,0,Lib.trimSuffix (l.drop 1) [39]) else
 match Lib.atoiAll l with
 |.ok n=>(1,n,[])
 |_=>(0,0,[])
def Qbi (l:List UInt8):Option (Int×Int×List UInt8):=
 if Qao (Qc8 l).1 (Qc8 l).2.1 (Qc8 l).2.2=true/\Qb1 (Qc8 l).1 (Qc8 l).2.1 (Qc8 l).2.2=l then some (Qc8 l) else none
def Qq9 (x:Int×Int×List UInt8):Value:=.agg #[.int .i64 x.1,.int .i64 x.2.1,.string ⟨x.2.2.toArray⟩]
def Qc1:Option (Int×Int×List UInt8)->Value
 |some x=>.tuple #[Qq9 x,.nilIface]
 |none=>.tuple #[.agg #[.int .i64 0,.int .i64 0,.string ⟨#[]⟩],.iface 37 (.int .i64 3)]
theorem Qlr (x:Lib.NumEnd Int):(∃n,x=.ok n)\/x=Lib.atoiAll []\/x=.range:=by
 cases x
 ·exact Or.inl ⟨_,rfl⟩
 ·exact Or.inr (Or.inl rfl)
 ·exact Or.inr (Or.inr rfl)
theorem Qls (s:ByteArray) (w:World) (n:Int) (y:s.size<=1000000) (h:Lib.atoiAll s.data.toList=.ok n):
 Calls Tryz.prog 121 #[.string s] w fun e w'=>e=.returned (.tuple #[.int .i64 n,.nilIface])/\Below w.heap.size w w':=
 (Tryz.strconv_Atoi_ok s (by omega) n h w).mono fun _ _ x=>⟨x.1,by
  rcases x.2 with h|⟨t,h⟩
  ·rw[h];exact Below.refl _ _
  ·rw[h];exact Joins.below_bytesWorld _ _ _ _ (Nat.le_refl _)⟩
theorem QnE (s:ByteArray) (w:World) (O:s.size<=1000000) (h:∀n,Lib.atoiAll s.data.toList≠.ok n) (D:Env w):
 Calls Tryz.prog 121 #[.string s] w fun e w'=>∃n t p,e=.returned (.tuple #[.int .i64 n,.iface t p])/\Below w.heap.size w w':=by
 obtain⟨I,H,M⟩:=D.es;obtain⟨F,K,J⟩:=D.er;rcases Qlr (Lib.atoiAll s.data.toList) with ⟨n,g⟩|g|g
 ·exact absurd g (h n)
 ·exact(Tryz.strconv_Atoi_syntax_var s (by omega) g I H w M).mono fun _ _ ⟨N,x,_,_,y⟩=>⟨_,_,_,x,y⟩
 ·exact(Tryz.strconv_Atoi_range_var s (by omega) g F K w J).mono fun _ _ ⟨N,x,_,_,y⟩=>⟨_,_,_,x,y⟩
theorem Qa2 {k n:Int} {l:List UInt8} (h:Qao k n l=true):l.length<=16/\-1000000000<=n/\n<=1000000000:=by
 unfold Qao at h;split at h
 ·simp at h;rw[h.2.2];exact⟨by simp,h.1,h.2.1⟩
 ·split at h
  ·simp[Qcu] at h;rw[h.2];exact⟨h.1.1,by omega,by omega⟩
  ·simp at h
theorem Qgj {l:List UInt8} {x:Int×Int×List UInt8} (h:Qc8 l=x):Qbi l=if Qao x.1 x.2.1 x.2.2=true/\Qb1 x.1 x.2.1 x.2.2=l then some x else none:=by
 subst h;rfl
theorem pre_len {s:ByteArray} (y:Lib.hasPrefix s.data.toList [39]=true):1<=s.size:=by
 have D:s.data.toList.length=s.size:=by simp
 cases h:s.data.toList with
 |nil=>rw[h] at y;simp[Lib.hasPrefix] at y
 |cons c r=>rw[h] at D;simp at D;omega
theorem QnF (l:List UInt8) {n:Nat} (h:l.length<=n):(Lib.trimSuffix l [39]).length<=n:=by
 unfold Lib.trimSuffix;split
 ·rw[List.length_take];omega
 ·exact h
theorem QeU (s:ByteArray) (w:World) (hs:s.size<=1000000) (hE:Env w) (hp:Lib.hasPrefix s.data.toList [39]=true):
 Calls Tryz.prog 88 #[.string s] w fun e w'=>e=.returned (Qc1 (Qbi s.data.toList))/\Below w.heap.size w w':=by
 have ar:1<=s.size:=pre_len hp;have hP:=Tryz.strings_HasPrefix s ⟨#[39]⟩ ((w.alloc (.cells #[.int .i64 0,.int .i64 0,.string ⟨#[]⟩] 46)).alloc (.cells #[.int .i64 0,.int .i64 0,.string ⟨#[]⟩] 46));have hp':Lib.hasPrefix s.data.toList (ByteArray.mk #[39]).data.toList=true:=hp;rw[hp'] at hP;have HP:=Hk hP;have HE:=Hk hE;have ad:Qc8 s.data.toList=(2,0,Lib.trimSuffix (s.data.toList.drop 1) [39]):=by simp[Qc8,hp]
 have O:=Hk (Qgj ad);clear hP hE hp hp' ad;have HT:Hid (List.take (s.size-1) s.data.toList.tail=s.data.toList.drop 1):=by
  show _=_
  rw[List.drop_one,List.take_of_length_le (by simp)]
 have aq:(Lib.trimSuffix (s.data.toList.drop 1) [39]).length<=1000000:=QnF _ (by simp;omega);go_enter Tryz.func88,Tryz.ntmps88;go_wp2_with (first|(go_at_call 109;refine HP.out.mono ?_;rintro e w' ⟨rfl,rfl⟩)|(go_at_call 120;refine(Tryz.strings_TrimSuffix _ _ _ (by simp;omega)).mono ?_;rintro e w' ⟨rfl,rfl⟩)|(go_at_call 65;fail));rw[HT.out];clear HT HP;generalize Lib.trimSuffix (s.data.toList.drop 1) [39]=x at*;have U:=Qba 2 0 ⟨x.toArray⟩ ((w.alloc (.cells #[.int .i64 0,.int .i64 0,.string ⟨#[]⟩] 46)).alloc (.cells #[.int .i64 2,.int .i64 0,.string ⟨x.toArray⟩] 46)) (by unfold maxLen;simp[ByteArray.size];omega);have hV:=fun(D:World) (h1:Env D) (h2:x.length<=1000)=>Qfh 2 0 ⟨x.toArray⟩ D (by simpa [ByteArray.size] using h2) (by omega) (by omega) h1
 cases g:Qao 2 0 x
 ·have K:Qbi s.data.toList=none:=by rw[O.out];simp[g]
  rw[show Qao 2 0 (ByteArray.mk x.toArray).data.toList=false from g] at U;have V:=Hk K;clear K O hV;refine U.mono ?_;rintro e D ⟨rfl,H⟩;obtain⟨y,N⟩:=QaP H;go_wp2;have hz:w.heap.size+1<D.heap.size:=by have:=H.size;simp at this;omega
  have c0:D.cell? ⟨w.heap.size,0,none⟩=some (.int .i64 0):=(y _ _ (by simp;omega)).trans (by simp);have c1:D.cell? ⟨w.heap.size,1,none⟩=some (.int .i64 0):=(y _ _ (by simp;omega)).trans (by simp);have c2:D.cell? ⟨w.heap.size,2,none⟩=some (.string ⟨#[]⟩):=(y _ _ (by simp;omega)).trans (by simp);clear y N;refine bodyPost_ret (v:=Qc1 none) (by simp[results,Tryz.results88,go_sem,c0,c1,c2,Qc1]) rfl ⟨by rw[V.out],?_⟩;exact(((((Qaa _ _).alloc (by simp) _).trans (H.mono (by simp;omega))).setCell (by simp) _).setCell (by simp) _).setCell (by simp) _
 ·rw[show Qao 2 0 (ByteArray.mk x.toArray).data.toList=true from g] at U;have ao:=(Qa2 g).1;have h2:∀D,Env D->_:=fun D h=>hV D h (by omega)
  have HV:=Hk h2;clear h2 hV;refine U.mono ?_;rintro e D ⟨rfl,H⟩;obtain⟨y,N⟩:=QaP H;have ac:Env D:=(HE.out.below ((Qaa w _).alloc (by simp) _)).below H;have ae:=Hk ac;have hz:w.heap.size+1<D.heap.size:=by have:=H.size;simp at this;omega
  have I:w.heap.size<D.heap.size:=by omega
  clear U ac
  cases g2:(Qb1 2 0 x==s.toList)
  ·have K:Qbi s.data.toList=none:=by
    rw[O.out,if_neg];rintro⟨-,h⟩;rw[ByteArray.toList_eq] at g2;simp[h] at g2
   have V:=Hk K;clear K O;go_wp2_with (go_at_call 122;refine(HV.out _ ae.out).mono ?_;rintro e M ⟨rfl,J⟩;obtain⟨F,Z⟩:=QaP J);have c0:M.cell? ⟨w.heap.size,0,none⟩=some (.int .i64 0):=(F _ _ I).trans ((y _ _ (by simp;omega)).trans (by simp));have c1:M.cell? ⟨w.heap.size,1,none⟩=some (.int .i64 0):=(F _ _ I).trans ((y _ _ (by simp;omega)).trans (by simp));have c2:M.cell? ⟨w.heap.size,2,none⟩=some (.string ⟨#[]⟩):=(F _ _ I).trans ((y _ _ (by simp;omega)).trans (by simp));clear y N F Z;refine bodyPost_ret (v:=Qc1 none) (by simp[results,Tryz.results88,go_sem,c0,c1,c2,Qc1]) rfl ⟨by rw[V.out],?_⟩;exact((((((Qaa _ _).alloc (by simp) _).trans (H.mono (by simp;omega))).trans (J.mono (by omega))).setCell (by simp) _).setCell (by simp) _).setCell (by simp) _
  ·have K:Qbi s.data.toList=some (2,0,x):=by
    rw[O.out,if_pos];rw[ByteArray.toList_eq] at g2;exact⟨g,by simpa using g2⟩
   have V:=Hk K;clear K O;go_wp2_with (go_at_call 122;refine(HV.out _ ae.out).mono ?_;rintro e M ⟨rfl,J⟩;obtain⟨F,Z⟩:=QaP J);have c0:M.cell? ⟨w.heap.size,0,none⟩=some (.int .i64 0):=(F _ _ I).trans ((y _ _ (by simp;omega)).trans (by simp));have c1:M.cell? ⟨w.heap.size,1,none⟩=some (.int .i64 0):=(F _ _ I).trans ((y _ _ (by simp;omega)).trans (by simp));have c2:M.cell? ⟨w.heap.size,2,none⟩=some (.string ⟨#[]⟩):=(F _ _ I).trans ((y _ _ (by simp;omega)).trans (by simp));clear y N F Z;refine bodyPost_ret (v:=Qc1 (some (2,0,x))) (by simp[results,Tryz.results88,go_sem,c0,c1,c2,Qc1,Qq9]) rfl ⟨by rw[V.out],?_⟩;exact((((((Qaa _ _).alloc (by simp) _).trans (H.mono (by simp;omega))).trans (J.mono (by omega))).setCell (by simp) _).setCell (by simp) _).setCell (by simp) _
theorem Qgb (s:ByteArray) (w:World) (n:Int) (hs:s.size<=1000000) (hE:Env w) (hp:Lib.hasPrefix s.data.toList [39]=false) (ha:Lib.atoiAll s.data.toList=.ok n):
 Calls Tryz.prog 88 #[.string s] w fun e w'=>e=.returned (Qc1 (Qbi s.data.toList))/\Below w.heap.size w w':=by
 have hP:=Tryz.strings_HasPrefix s ⟨#[39]⟩ ((w.alloc (.cells #[.int .i64 0,.int .i64 0,.string ⟨#[]⟩] 46)).alloc (.cells #[.int .i64 0,.int .i64 0,.string ⟨#[]⟩] 46));have hp':Lib.hasPrefix s.data.toList (ByteArray.mk #[39]).data.toList=false:=hp;rw[hp'] at hP;have HP:=Hk hP;have HE:=Hk hE;have am:Qc8 s.data.toList=(1,n,[]):=by simp[Qc8,hp,ha]
 have HX:=Hk (Qgj am);have HA:=Hk (Qls s ((w.alloc (.cells #[.int .i64 0,.int .i64 0,.string ⟨#[]⟩] 46)).alloc (.cells #[.int .i64 0,.int .i64 0,.string ⟨#[]⟩] 46)) n hs ha);clear hP hE hp hp' am ha;go_enter Tryz.func88,Tryz.ntmps88;go_wp2_with (first|(go_at_call 109;refine HP.out.mono ?_;rintro e w' ⟨rfl,rfl⟩)|(go_at_call 121;refine HA.out.mono ?_;rintro e N ⟨rfl,aa⟩;obtain⟨O,ab⟩:=QaP aa)|(go_at_call 65;fail));have sA:w.heap.size+1<N.heap.size:=by have:=aa.size;simp at this;omega
 have a0:N.cell? ⟨w.heap.size+1,0,none⟩=some (.int .i64 0):=(O _ _ (by simp)).trans (by simp);have a1:N.cell? ⟨w.heap.size+1,1,none⟩=some (.int .i64 0):=(O _ _ (by simp)).trans (by simp);have a2:N.cell? ⟨w.heap.size+1,2,none⟩=some (.string ⟨#[]⟩):=(O _ _ (by simp)).trans (by simp);have q0:N.cell? ⟨w.heap.size,0,none⟩=some (.int .i64 0):=(O _ _ (by simp;omega)).trans (by simp);have q1:N.cell? ⟨w.heap.size,1,none⟩=some (.int .i64 0):=(O _ _ (by simp;omega)).trans (by simp);have q2:N.cell? ⟨w.heap.size,2,none⟩=some (.string ⟨#[]⟩):=(O _ _ (by simp;omega)).trans (by simp);have z0:N.frozen? ⟨w.heap.size,0,none⟩=false:=(ab _ _ (by simp;omega)).trans (by simp);have z1:N.frozen? ⟨w.heap.size,1,none⟩=false:=(ab _ _ (by simp;omega)).trans (by simp);have z2:N.frozen? ⟨w.heap.size,2,none⟩=false:=(ab _ _ (by simp;omega)).trans (by simp);have bA:Below w.heap.size w N:=((Qaa w _).alloc (by simp) _).trans (aa.mono (by simp;omega));obtain⟨H,y⟩:∃H,H=((N.setCell ⟨w.heap.size+1,0,none⟩ (.int .i64 1)).setCell ⟨w.heap.size+1,1,none⟩ (.int .i64 n)).setCell ⟨w.heap.size+1,2,none⟩ (.string ⟨#[]⟩):=⟨_,rfl⟩;have v0:H.cell? ⟨w.heap.size+1,0,none⟩=some (.int .i64 1):=by rw[y];simp[go_sem,a0,a1,a2]
 have v1:H.cell? ⟨w.heap.size+1,1,none⟩=some (.int .i64 n):=by rw[y];simp[go_sem,a0,a1,a2]
 have v2:H.cell? ⟨w.heap.size+1,2,none⟩=some (.string ⟨#[]⟩):=by rw[y];simp[go_sem,a0,a1,a2]
 have r0:H.cell? ⟨w.heap.size,0,none⟩=some (.int .i64 0):=by rw[y];simp[go_sem,q0]
 have r1:H.cell? ⟨w.heap.size,1,none⟩=some (.int .i64 0):=by rw[y];simp[go_sem,q1]
 have r2:H.cell? ⟨w.heap.size,2,none⟩=some (.string ⟨#[]⟩):=by rw[y];simp[go_sem,q2]
 have f0:H.frozen? ⟨w.heap.size,0,none⟩=false:=by rw[y];simp[go_sem,z0]
 have f1:H.frozen? ⟨w.heap.size,1,none⟩=false:=by rw[y];simp[go_sem,z1]
 have f2:H.frozen? ⟨w.heap.size,2,none⟩=false:=by rw[y];simp[go_sem,z2]
 have sz:w.heap.size+1<H.heap.size:=by rw[y];simpa [World.setCell] using sA
 have F:w.heap.size<H.heap.size:=by omega
 have bB:Below w.heap.size w H:=by rw[y];exact((bA.setCell (by simp) _).setCell (by simp) _).setCell (by simp) _
 rw[<-y];clear y a0 a1 a2 q0 q1 q2 z0 z1 z2 bA O ab aa sA HA HP;have hq:=Qba 1 n ⟨#[]⟩ H (by unfold maxLen;simp[ByteArray.size]);have Z:∀M,Env M->Qao 1 n []=true->_:=fun M h g=>Qfh 1 n ⟨#[]⟩ M (by simp[ByteArray.size]) (by have:=(Qa2 g).2;omega) (by have:=(Qa2 g).2;omega) h
 cases g:Qao 1 n []
 ·have V:Qbi s.data.toList=none:=by rw[HX.out];simp[g]
  rw[show Qao 1 n (ByteArray.mk #[]).data.toList=false from g] at hq;have HN:=Hk V;clear V HX Z;refine hq.mono ?_;rintro e M ⟨rfl,K⟩;obtain⟨D,ac⟩:=QaP K;clear hq;go_wp2;have c0:=(D w.heap.size 0 F).trans r0;have c1:=(D w.heap.size 1 F).trans r1;have c2:=(D w.heap.size 2 F).trans r2;clear D ac;refine bodyPost_ret (v:=Qc1 none) (by simp[results,Tryz.results88,go_sem,c0,c1,c2,Qc1]) rfl ⟨by rw[HN.out],?_⟩;exact(((bB.trans (K.mono (Nat.le_of_lt F))).setCell (Nat.le_refl _) _).setCell (Nat.le_refl _) _).setCell (Nat.le_refl _) _
 ·rw[show Qao 1 n (ByteArray.mk #[]).data.toList=true from g] at hq;have h2:∀M,Env M->_:=fun M h=>Z M h g
  have HV:=Hk h2;clear h2 Z;refine hq.mono ?_;rintro e M ⟨rfl,K⟩;obtain⟨D,ac⟩:=QaP K;have al:Env M:=(HE.out.below bB).below K;have ao:=Hk al;have hz:w.heap.size+1<M.heap.size:=by have:=K.size;omega
  have J:w.heap.size<M.heap.size:=by omega
  clear hq al
  cases g2:(Qb1 1 n []==s.toList)
  ·have V:Qbi s.data.toList=none:=by
    rw[HX.out,if_neg];rintro⟨-,h⟩;rw[ByteArray.toList_eq] at g2;simp[h] at g2
   have HN:=Hk V;clear V HX;go_wp2_with (go_at_call 122;refine(HV.out _ ao.out).mono ?_;rintro e w2 ⟨rfl,U⟩;obtain⟨I,ag⟩:=QaP U);have c0:=(I w.heap.size 0 J).trans ((D w.heap.size 0 F).trans r0);have c1:=(I w.heap.size 1 J).trans ((D w.heap.size 1 F).trans r1);have c2:=(I w.heap.size 2 J).trans ((D w.heap.size 2 F).trans r2);clear D ac I ag;refine bodyPost_ret (v:=Qc1 none) (by simp[results,Tryz.results88,go_sem,c0,c1,c2,Qc1]) rfl ⟨by rw[HN.out],?_⟩;exact((((bB.trans (K.mono (Nat.le_of_lt F))).trans (U.mono (Nat.le_of_lt J))).setCell (Nat.le_refl _) _).setCell (Nat.le_refl _) _).setCell (Nat.le_refl _) _
  ·have V:Qbi s.data.toList=some (1,n,[]):=by
    rw[HX.out,if_pos];rw[ByteArray.toList_eq] at g2;exact⟨g,by simpa using g2⟩
   have HN:=Hk V;clear V HX;go_wp2_with (go_at_call 122;refine(HV.out _ ao.out).mono ?_;rintro e w2 ⟨rfl,U⟩;obtain⟨I,ag⟩:=QaP U);have c0:=(I w.heap.size 0 J).trans ((D w.heap.size 0 F).trans r0);have c1:=(I w.heap.size 1 J).trans ((D w.heap.size 1 F).trans r1);have c2:=(I w.heap.size 2 J).trans ((D w.heap.size 2 F).trans r2);clear D ac I ag;refine bodyPost_ret (v:=Qc1 (some (1,n,[]))) (by simp[results,Tryz.results88,go_sem,c0,c1,c2,Qc1,Qq9]) rfl ⟨by rw[HN.out],?_⟩;exact((((bB.trans (K.mono (Nat.le_of_lt F))).trans (U.mono (Nat.le_of_lt J))).setCell (Nat.le_refl _) _).setCell (Nat.le_refl _) _).setCell (Nat.le_refl _) _
theorem Qgc (s:ByteArray) (w:World) (hs:s.size<=1000000) (hE:Env w) (N:Lib.hasPrefix s.data.toList [39]=false) (U:∀n,Lib.atoiAll s.data.toList≠.ok n):
 Calls Tryz.prog 88 #[.string s] w fun e w'=>e=.returned (Qc1 (Qbi s.data.toList))/\Below w.heap.size w w':=by
 have O:=Tryz.strings_HasPrefix s ⟨#[39]⟩ ((w.alloc (.cells #[.int .i64 0,.int .i64 0,.string ⟨#[]⟩] 46)).alloc (.cells #[.int .i64 0,.int .i64 0,.string ⟨#[]⟩] 46));have hp':Lib.hasPrefix s.data.toList (ByteArray.mk #[39]).data.toList=false:=N;rw[hp'] at O;have V:=Hk O;have M:Qc8 s.data.toList=(0,0,[]):=by
  unfold Qc8;rw[if_neg (by simp[N])];split
  ·rename_i n h;exact absurd h (U n)
  ·rfl
 have hn:Qbi s.data.toList=none:=by rw[Qgj M];simp[Qao]
 have HN:=Hk hn;have Z:=Hk (QnE s ((w.alloc (.cells #[.int .i64 0,.int .i64 0,.string ⟨#[]⟩] 46)).alloc (.cells #[.int .i64 0,.int .i64 0,.string ⟨#[]⟩] 46)) hs U (hE.below ((Qaa w _).alloc (by simp) _)));clear O hE N hp' M U hn;go_enter Tryz.func88,Tryz.ntmps88;go_wp2_with (first|(go_at_call 109;refine V.out.mono ?_;rintro e w' ⟨rfl,rfl⟩)|(go_at_call 121;refine Z.out.mono ?_;rintro e y ⟨n,t,p,rfl,F⟩;obtain⟨D,H⟩:=QaP F)|(go_at_call 65;fail));have sA:w.heap.size+1<y.heap.size:=by have:=F.size;simp at this;omega
 have a0:y.cell? ⟨w.heap.size+1,0,none⟩=some (.int .i64 0):=(D _ _ (by simp)).trans (by simp);have a1:y.cell? ⟨w.heap.size+1,1,none⟩=some (.int .i64 0):=(D _ _ (by simp)).trans (by simp);have a2:y.cell? ⟨w.heap.size+1,2,none⟩=some (.string ⟨#[]⟩):=(D _ _ (by simp)).trans (by simp);have q0:y.cell? ⟨w.heap.size,0,none⟩=some (.int .i64 0):=(D _ _ (by simp;omega)).trans (by simp);have q1:y.cell? ⟨w.heap.size,1,none⟩=some (.int .i64 0):=(D _ _ (by simp;omega)).trans (by simp);have q2:y.cell? ⟨w.heap.size,2,none⟩=some (.string ⟨#[]⟩):=(D _ _ (by simp;omega)).trans (by simp);have z0:y.frozen? ⟨w.heap.size,0,none⟩=false:=(H _ _ (by simp;omega)).trans (by simp);have z1:y.frozen? ⟨w.heap.size,1,none⟩=false:=(H _ _ (by simp;omega)).trans (by simp);have z2:y.frozen? ⟨w.heap.size,2,none⟩=false:=(H _ _ (by simp;omega)).trans (by simp);have bA:Below w.heap.size w y:=((Qaa w _).alloc (by simp) _).trans (F.mono (by simp;omega));clear D H Z V F;refine(Qba 0 0 ⟨#[]⟩ y (by unfold maxLen;simp[ByteArray.size])).mono ?_;rintro e w1 ⟨rfl,K⟩;rw[show Qao 0 0 (ByteArray.mk #[]).data.toList=false from rfl];obtain⟨J,ac⟩:=QaP K;have I:w.heap.size<y.heap.size:=by omega
 go_wp2;have c0:=(J w.heap.size 0 I).trans q0;have c1:=(J w.heap.size 1 I).trans q1;have c2:=(J w.heap.size 2 I).trans q2;clear J ac;refine bodyPost_ret (v:=Qc1 none) (by simp[results,Tryz.results88,go_sem,c0,c1,c2,Qc1]) rfl ⟨by rw[HN.out],?_⟩;exact(((bA.trans (K.mono (Nat.le_of_lt I))).setCell (Nat.le_refl _) _).setCell (Nat.le_refl _) _).setCell (Nat.le_refl _) _
theorem Qdy (s:ByteArray) (w:World) (y:s.size<=1000000) (D:Env w):
 Calls Tryz.prog 88 #[.string s] w fun e w'=>e=.returned (Qc1 (Qbi s.data.toList))/\Below w.heap.size w w':=by
 cases hp:Lib.hasPrefix s.data.toList [39]
 ·by_cases h:∃n,Lib.atoiAll s.data.toList=.ok n
  ·obtain⟨n,F⟩:=h;exact Qgb s w n y D hp F
  ·exact Qgc s w y D hp (fun n e=>h ⟨n,e⟩)
 ·exact QeU s w y D hp
end Go.Proofs.YtjlgejennghhlaaGreatDoor
