import Derived.Lib.AtoiAll
import Derived.Lib.SmallJoins
import Derived.Lib.ItoaLen
import Derived.Deep.RegionHeld3
import Derived.Deep.AppendLies
import Derived.Lib.QuietBelow
import Derived.Test.YtofidnijfnhpaaaGreatDoorQ01
import Derived.Test.YtofidnijfnhpaaaGreatDoorQ02
set_option linter.unusedSimpArgs false
set_option linter.unusedVariables false
set_option linter.unusedSectionVars false
set_option maxRecDepth 1000000
set_option maxHeartbeats 16000000
namespace Go.Proofs.YtofidnijfnhpaaaGreatDoor
open Go.RowKit
theorem Qgd (u A:Value) (h:List Vl) (cs:List Cl) (w:World) (j:Qbk w u h) (q:Qav w A cs) (D:1<=cs.length) (N:cs.length<=6):
 Calls Tryz.prog 62 #[u,A] w fun e w'=>e=.returned (.bool (Qbm h cs))/\Below w.heap.size w w':=by
 obtain⟨a,c,rfl,I,j⟩:=j
 obtain⟨M,J,rfl,_,_,q⟩:=q
 by_cases hl:h.length=cs.length
 ·rcases q with q|⟨K,F,rfl,B,y⟩
  ·rw[q] at D;simp at D
  ·rcases j with j|⟨b,o,rfl,z,E⟩
   ·rw[j] at hl;simp at hl;omega
   ·rw[<-hl]
    exact Qg4 b o c K F J h.length h cs w rfl hl.symm (by omega) z B E y I
 ·rw[Qc2 h cs hl]
  exact QfB _ _ _ _ _ _ _ hl
def Qan (cs:List Cl) (rs:List (List Vl)):Bool:=Qah cs&&(decide (rs.length<=60)&&rs.all fun r=>Qbm r cs)
theorem Qcw {cs:List Cl} (h:Qah cs=true):1<=cs.length/\cs.length<=6:=by
 simp[Qah] at h;exact⟨by omega,h.2.1⟩
theorem QhR {p:List Vl->Bool} {rs:List (List Vl)} {k:Nat} (h:k<rs.length) (j:(rs.take k).all p=true) (o:p rs[k]=true):(rs.take (k+1)).all p=true:=by
 rw[List.take_succ_eq_append_getElem h,List.all_append,j];simp[o]
theorem Qge {p:List Vl->Bool} {rs:List (List Vl)} {k:Nat} (h:k<rs.length) (j:p rs[k]=false):rs.all p=false:=by
 rw[List.all_eq_false];exact⟨_,List.getElem_mem h,by simp[j]⟩
theorem Qcr (F D:Value) (cs:List Cl) (rs:List (List Vl)) (w:World) (hc:Qav w F cs) (hr:QaC w D rs):
 Calls Tryz.prog 39 #[.agg #[F,D]] w fun e V=>e=.returned (.bool (Qan cs rs))/\Below w.heap.size w V:=by
 have y:=hc.below (Qab w (.cells #[F,D] 36))
 have J:=hr.below (Qab w (.cells #[F,D] 36))
 obtain⟨a,c,rfl,-,-,-⟩:=hc
 obtain⟨a',c',rfl,-⟩:=hr
 cases g1:Qah cs
 ·have z:Hid (Qan cs rs=false):=by show Qan cs rs=false;simp[Qan,g1]
  have q:=Qdn _ cs _ y
  simp only[g1] at q
  have E:=Hk q
  clear q y J
  go_enter Tryz.func39,Tryz.ntmps39
  go_wp2_with (go_at_call 61;refine E.out.mono ?_;rintro e V ⟨rfl,j⟩)
  go_ret
  exact⟨Qal z.out.symm,(Qab _ _).trans (j.mono (by simp))⟩
 ·obtain⟨h1,h6⟩:=Qcw g1
  have q:=Qdn _ cs _ y
  simp only[g1] at q
  have E:=Hk q
  clear q
  by_cases h60:rs.length<=60
  ·have z:Hid (Qan cs rs=rs.all fun r=>Qbm r cs):=by show _=_;simp[Qan,g1,h60]
   have O:¬((60:Int)<(rs.length:Int)):=by omega
   go_enter Tryz.func39,Tryz.ntmps39
   go_wp2_with (go_at_call 61;refine E.out.mono ?_;rintro e I ⟨rfl,j⟩;obtain⟨M,ac⟩:=QbM j)
   have ad:=y.below j
   have af:=J.below j
   have hz:w.heap.size+1<=I.heap.size:=by have:=j.size;simpa using this
   go_loopw [18] (fun i wr=>∃k:Nat,k<=rs.length/\i=.int .i64 k/\(rs.take k).all (fun r=>Qbm r cs)=true/\Below I.heap.size I wr) (fun i _=>rs.length-(intOf i).toNat)
   case atStart=>exact⟨0,Nat.zero_le _,rfl,rfl,Below.refl _ _⟩
   case round=>
    obtain⟨k,hk,rfl,K,h⟩:=hrel
    have HA:=Hk K
    clear K
    have t1:wr.cell? ⟨w.heap.size,0,none⟩=some (.slice a cs.length c):=(h.cell (p:=⟨w.heap.size,0,none⟩) (by exact hz)).trans ((M _ _ (by simp)).trans (by simp))
    by_cases hlt:k<rs.length
    ·obtain⟨a2,c2,e2,o⟩:=af
     rcases o with o|⟨rb,ro,rfl,Z,o⟩
     ·rw[o] at hlt;simp at hlt
     ·simp only[Value.slice.injEq] at e2
      obtain⟨rfl,-,rfl⟩:=e2
      obtain⟨u,N,A⟩:=o k hlt
      have hu':=cK h Z N
      have T:=Qgd u (.slice a cs.length c) rs[k] cs wr (A.below h) (ad.below h) h1 h6
      obtain⟨a3,c3,rfl,-,-⟩:=A
      have U:=Hk T
      clear T N
      cases g2:Qbm rs[k] cs
      ·go_wp2_with (go_at_call 62;refine U.out.mono ?_;rintro e w2 ⟨rfl,B⟩)
       go_ret
       exact⟨Qal (by rw[z.out];exact(Qge (p:=fun r=>Qbm r cs) hlt g2).symm),(Qab _ _).trans ((j.mono (by simp)).trans ((h.mono (by omega)).trans (B.mono (by have:=h.size;omega))))⟩
      ·go_wp2_with (go_at_call 62;refine U.out.mono ?_;rintro e w2 ⟨rfl,B⟩)
       go_roundw
       case rel=>exact⟨k+1,by omega,by go_num,QhR (p:=fun r=>Qbm r cs) hlt HA.out g2,h.trans (B.mono h.size)⟩
       case measure=>simp[intOf];omega
    ·go_wp2
     go_ret
     exact⟨Qal (by have:=HA.out;rw[List.take_of_length_le (by omega)] at this;rw[z.out];exact this.symm),(Qab _ _).trans ((j.mono (by simp)).trans (h.mono (by omega)))⟩
  ·have z:Hid (Qan cs rs=false):=by show _=_;simp[Qan,h60]
   have O:(60:Int)<(rs.length:Int):=by omega
   go_enter Tryz.func39,Tryz.ntmps39
   go_wp2_with (go_at_call 61;refine E.out.mono ?_;rintro e I ⟨rfl,j⟩;obtain⟨M,ac⟩:=QbM j)
   go_ret
   exact⟨Qal z.out.symm,(Qab _ _).trans (j.mono (by simp))⟩
structure Env (w:World):Prop where
 size:∀g,g∈[0,2]->g<w.heap.size
 mx:∃m,w.cell? ⟨0,0,none⟩=some (.int .i64 m)
 pw:Lib.TabIs Tryz.prog w "internal/strconv.uint64pow10" .u64 Lib.pow10Tab
theorem Env.below {w q:World} (h:Env w) (j:Below w.heap.size w q):Env q:=by
 have o:=h.size
 refine⟨fun g hg=>Nat.lt_of_lt_of_le (h.size g hg) j.size,?_,?_⟩
 ·obtain⟨m,y⟩:=h.mx
  exact⟨m,cK j (o _ (by simp)) y⟩
 ·exact var?_below (g:=2) j (by kernel_rfl) (o _ (by simp)) h.pw
theorem Qen (w:World) (k:Nat) (os:Array Obj):Below w.heap.size w (Sort.grow (w.drewN k) os):=
 ⟨rfl,rfl,rfl,by simp[Sort.grow,World.drewN],fun k hk=>by simp[Sort.grow,World.drewN,Array.getElem?_append,hk]⟩
theorem QfC {x:ByteArray} {l:List UInt8} (h:x.data.toList=l):Ending.returned (.string x)=.returned (.string ⟨l.toArray⟩):=by rw[Qe3 h]
def QcL (k n:Int) (l:List UInt8):List UInt8:=if k=1 then Lib.itoa n else 39::(l++[39])
theorem Qja (k n:Int) (s:ByteArray) (w:World) (D:s.size<=1000) (o: -9223372036854775808<=n) (y:n<=9223372036854775807) (j:Env w):
 Calls Tryz.prog 122 #[.agg #[.int .i64 k,.int .i64 n,.string s]] w fun e z=>e=.returned (.string ⟨(QcL k n s.data.toList).toArray⟩)/\Below w.heap.size w z:=by
 have q:=Tryz.strconv_Itoa n o y (w.alloc (.cells #[.int .i64 k,.int .i64 n,.string s] 24)) (j.below (Qab _ _)).pw
 have A:=Hk q
 have F:=Hk j
 clear q j
 cases g:(k==1)
 ·have h:Hid (QcL k n s.data.toList=39::(s.data.toList++[39])):=by show _=_;simp at g;simp[QcL,g]
  clear A o y
  go_enter Tryz.func122,Tryz.ntmps122
  go_wp2
  go_ret
  exact⟨QfC (by rw[h.out];simp),Qab _ _⟩
 ·have h:Hid (QcL k n s.data.toList=Lib.itoa n):=by show _=_;simp at g;simp[QcL,g]
  go_enter Tryz.func122,Tryz.ntmps122
  go_wp2_with (go_at_call 86;refine A.out.mono ?_;rintro e z ⟨rfl,E,B,rfl⟩)
  go_ret
  refine⟨QfC (by rw[h.out]),(Qab _ _).trans ((Qen _ _ _).mono (by simp))⟩
theorem QbQ {k n:Int} {l:List UInt8} (h:Qat k n l=true):l.length<=16/\-1000000000<=n/\n<=1000000000:=by
 unfold Qat at h
 split at h
 ·simp at h;rw[h.2.2];exact⟨by simp,h.1,h.2.1⟩
 ·split at h
  ·simp[QbP] at h;rw[h.2];exact⟨h.1.1,by omega,by omega⟩
  ·simp at h
theorem Qeo {w j:World} (h:Below w.heap.size w j) (row:Option Nat):w.grownBy j row:=⟨h.os,h.tape,h.output,h.size,fun k hk _=>h.block k hk⟩
theorem Qaf {w o:World} {base:Nat} {e:TypeId} {size:Nat} {v:Value} {n:Nat} {j:List Value} (h:w.ownsRow base e size v n j) (q:Below w.heap.size w o):o.ownsRow base e size v n j:=
 h.kept (Qeo q none) (by cases v.ownBlock<;>simp)
theorem Qam {w:World} {base B:Nat} {e:TypeId} {size:Nat} {v:Value} {n:Nat} {y:List Value} (D:B<=base) (h:w.ownsRow base e size v n y):w.ownsRow B e size v n y:=by
 obtain⟨q,h|⟨g,j,o,z,A,r⟩⟩:=h
 ·exact⟨q,Or.inl h⟩
 ·exact⟨q,Or.inr ⟨g,j,o,z,by omega,r⟩⟩
def Qap (cs:List Cl):List Value:=cs.flatMap fun c=>[.string c.1,.int .i64 c.2]
theorem Qd0 (cs:List Cl):(Qap cs).length=cs.length*2:=by
 induction cs with
 |nil=>rfl
 |cons c r ih=>simp only[Qap,List.flatMap_cons,List.length_append,List.length_cons,List.length_nil] at ih⊢;omega
theorem Qdc:∀(cs:List Cl) (j:Nat) (h:j<cs.length),(Qap cs)[j*2]? =some (.string cs[j].1)/\(Qap cs)[j*2+1]? =some (.int .i64 cs[j].2)
 |[],_,h=>absurd h (by simp)
 |c::r,0,_=>⟨rfl,rfl⟩
 |c::r,j+1,h=>by
  have:=Qdc r j (by simpa using h)
  have e:Qap (c::r)=.string c.1::.int .i64 c.2::Qap r:=by simp[Qap]
  rw[e,show(j+1)*2=j*2+1+1 by omega]
  simpa using this
theorem Qbx {w:World} {base:Nat} {v:Value} {cs:List Cl} (h:w.ownsRow base 56 2 v cs.length (Qap cs)) (z:∀x∈cs,x.1.size<=maxLen):Qav w v cs:=by
 have q:=h
 obtain⟨-,h|⟨g,y,E,rfl,I,J,o,F,_,_⟩⟩:=h
 ·obtain⟨rfl,o⟩:=h
  exact⟨none,0,by rw[o],by omega,z,Or.inl (List.length_eq_zero_iff.1 o)⟩
 ·refine⟨some ⟨g,0,none⟩,y,rfl,o,z,Or.inr ⟨g,0,rfl,(q.lt g rfl).2,fun j hj=>?_⟩⟩
  have A:=Qdc cs j hj
  have D:=q.cellAt (j*2) (by omega)
  have B:=q.cellAt (j*2+1) (by omega)
  rw[show 0+j*2=j*2 by omega]
  exact⟨D.trans A.1,B.trans A.2⟩
theorem Tryz.infoCol:(Tryz.prog.info? 56).map (fun i=>(i.zero,i.size,i.bytes))=some (some (.agg #[.string ⟨#[]⟩,.int .i64 0]),2,24):=by kernel_rfl
def Qai (vs:List Vl):List Value:=vs.flatMap fun v=>[.int .i64 v.1,.int .i64 v.2.1,.string v.2.2]
theorem QcM (a b:List Vl):Qai (a++b)=Qai a++Qai b:=by simp[Qai]
theorem Qcx:∀(o:List Vl) (j:Nat) (h:j<o.length),(Qai o)[j*3]? =some (.int .i64 o[j].1)/\(Qai o)[j*3+1]? =some (.int .i64 o[j].2.1)/\(Qai o)[j*3+2]? =some (.string o[j].2.2)
 |[],_,h=>absurd h (by simp)
 |c::r,0,_=>⟨rfl,rfl,rfl⟩
 |c::r,j+1,h=>by
  have:=Qcx r j (by simpa using h)
  have e:Qai (c::r)=.int .i64 c.1::.int .i64 c.2.1::.string c.2.2::Qai r:=by simp[Qai]
  rw[e,show(j+1)*3=j*3+1+1+1 by omega]
  simpa using this
theorem Qb7 {w:World} {base:Nat} {v:Value} {o:List Vl} (h:w.ownsRow base 24 3 v o.length (Qai o)) (B:∀x∈o,x.2.2.size<=maxLen):Qbk w v o:=by
 have q:=h
 obtain⟨-,h|⟨g,A,I,rfl,K,M,z,J,_,_⟩⟩:=h
 ·obtain⟨rfl,z⟩:=h
  exact⟨none,0,by rw[z],B,Or.inl (List.length_eq_zero_iff.1 z)⟩
 ·refine⟨some ⟨g,0,none⟩,A,rfl,B,Or.inr ⟨g,0,rfl,(q.lt g rfl).2,fun j hj=>?_⟩⟩
  have y:=Qcx o j hj
  have F:=q.cellAt (j*3) (by omega)
  have D:=q.cellAt (j*3+1) (by omega)
  have E:=q.cellAt (j*3+2) (by omega)
  rw[show 0+j*3=j*3 by omega]
  exact⟨F.trans y.1,D.trans y.2.1,E.trans y.2.2⟩
theorem Qaa {w h j:World} (o:Below w.heap.size w h) (q:Below h.heap.size h j):Below w.heap.size w j:=o.trans (q.mono o.size)
theorem Qad {w j:World} (h:Below w.heap.size w j) (o:Obj):Below w.heap.size w (j.alloc o):=h.alloc h.size o
theorem Tryz.infoVal:(Tryz.prog.info? 24).map (fun i=>(i.zero,i.size,i.bytes))=some (some (.agg #[.int .i64 0,.int .i64 0,.string ⟨#[]⟩]),3,32):=by kernel_rfl
theorem Qch {w:World} {B A:Nat} {e q:TypeId} {z E:Nat} {u v:Value} {n m:Nat} {F I:List Value} (he:e≠q) (h:w.ownsRow B e z u n F) (k:w.ownsRow A q E v m I):u.ownBlock=none\/u.ownBlock≠v.ownBlock:=by
 obtain⟨-,⟨rfl,-⟩|⟨g,J,K,rfl,-,j,-⟩⟩:=h
 ·exact Or.inl rfl
 ·obtain⟨-,⟨rfl,-⟩|⟨M,D,y,rfl,-,o,-⟩⟩:=k
  ·exact Or.inr (by simp[Value.ownBlock])
  ·refine Or.inr (fun e1=>?_)
   simp only[Value.ownBlock,Option.some.injEq] at e1
   rw[e1,o] at j
   simp only[Option.some.injEq,Obj.cells.injEq] at j
   exact he j.2.1.symm
theorem Tryz.infoRow:(Tryz.prog.info? 57).map (fun i=>(i.zero,i.size,i.bytes))=some (some (.slice none 0 0),1,24):=by kernel_rfl
theorem Qlt (r:List (List UInt8)) (h:∀x∈r,x.length<=1000):Lib.lens r<=1000*r.length:=by
 induction r with
 |nil=>simp[Lib.lens]
 |cons x r ih=>
  have o:=h x (by simp)
  have j:=ih (fun y hy=>h y (by simp[hy]))
  simp only[Lib.lens,List.map_cons,List.sum_cons,List.length_cons] at j⊢
  omega
theorem Qg5 (j:List (List UInt8)) (o:j.length<=100) (h:∀x∈j,x.length<=1000):(Lib.join j [32]).length<=100100:=by
 cases j with
 |nil=>simp[Lib.join_nil]
 |cons x r=>
  rw[Lib.join_length]
  have:=Qlt (x::r) h
  simp at o this⊢
  omega
theorem Qbh {cs:List Cl} {rs:List (List Vl)} (h:Qan cs rs=true):Qah cs=true/\rs.length<=60/\∀r∈rs,Qbm r cs=true:=by
 simp[Qan] at h
 exact⟨h.1,h.2.1,fun r hr=>h.2.2 r hr⟩
theorem Qep:∀(cs o:List Cl),Qca o cs=true->∀c∈cs,Qd9 c.1.data.toList=true/\Qfz c.2=true
 |[],_,_,c,j=>absurd j (by simp)
 |d::r,o,h,c,j=>by
  simp[Qca] at h
  rcases List.mem_cons.1 j with rfl|j
  ·exact⟨h.1,h.2.1⟩
  ·exact Qep r _ h.2.2.2 c j
def Qak (cs:List Cl) (nm:List UInt8):Option Nat:=cs.findIdx? fun c=>c.1.data.toList==nm
def Qaq (cs:List Cl) (nm:List UInt8):Int:=match Qak cs nm with
 |some i=>(i:Int)
 |none=>-1
theorem Qaj {cs:List Cl} {j:List UInt8} {i:Nat} (h:Qak cs j=some i):i<cs.length:=by
 have:=List.findIdx?_eq_some_iff_getElem.1 h
 exact this.1
theorem Qdd {cs:List Cl} {q:List UInt8} {k:Nat} (z:k<cs.length) (y:(cs[k].1.data.toList==q)=true) (o:∀j (h:j<k),(cs[j].1.data.toList==q)=false):Qak cs q=some k:=by
 refine List.findIdx?_eq_some_iff_getElem.2 ⟨z,y,fun j hj=>?_⟩
 rw[o j hj];simp
theorem Qgf {cs:List Cl} {q:List UInt8} (o:∀j (h:j<cs.length),(cs[j].1.data.toList==q)=false):Qak cs q=none:=by
 refine List.findIdx?_eq_none_iff.2 fun x hx=>?_
 obtain⟨j,y,rfl⟩:=List.mem_iff_getElem.1 hx
 exact o j y
theorem Qil (s j:ByteArray) (k:Int) (h:Nat) (w:World) (q:w.cell? ⟨h,0,none⟩=some (.string j)) (o:h<w.heap.size):
 Calls Tryz.prog 80 #[.agg #[.string s,.int .i64 k],.pointer (some ⟨h,0,none⟩)] w fun e w'=>e=.returned (.bool (s.data.toList==j.data.toList))/\Below w.heap.size w w':=by
 go_enter Tryz.func80,Tryz.ntmps80
 go_wp2
 go_ret
 exact⟨Qal (by rw[ByteArray.toList_eq,ByteArray.toList_eq]),Qab _ _⟩
theorem Qgg (b o n c:Nat) (cs:List Cl) (z:ByteArray) (y:Nat) (w:World) (M:cs.length=n) (Z:n<=100) (O:b<w.heap.size) (V:Qas w b o cs) (T:w.cell? ⟨y,0,none⟩=some (.string z)) (K:y<w.heap.size):
 Calls Tryz.prog 79 #[.slice (some ⟨b,o,none⟩) n c,.func (.func 80) #[] #[.pointer (some ⟨y,0,none⟩)]] w fun e w'=>e=.returned (.int .i64 (Qaq cs z.data.toList))/\Below w.heap.size w w':=by
 have N:Hid (cs.length=n):=M
 clear M
 go_enter Tryz.func79,Tryz.ntmps79
 go_wp2
 go_loopw [8] (fun i wr=>∃k:Nat,k<=n/\i=.int .i64 k/\(∀j (h:j<cs.length),j<k->(cs[j].1.data.toList==z.data.toList)=false)/\Below w.heap.size w wr) (fun i _=>n-(intOf i).toNat)
 case atStart=>exact⟨0,Nat.zero_le _,rfl,fun j _ h=>absurd h (by omega),Below.refl _ _⟩
 case round=>
  obtain⟨k,hk,rfl,E,q⟩:=hrel
  have I:=Hk E
  clear E
  by_cases hlt:k<n
  ·have D:k<cs.length:=by have:=N.out;omega
   obtain⟨c1,c2⟩:=V k D
   have d1:=cK q O c1
   have d2:=cK q O c2
   clear c1 c2
   have B:=Hk (Qil cs[k].1 z cs[k].2 y wr (cK q K T) (by have:=q.size;omega))
   cases hp:(cs[k].1.data.toList==z.data.toList)
   ·rw[hp] at B
    have J:=Hk hp
    clear hp
    go_wp2_with (go_at_call 80;refine B.out.mono ?_;rintro e U ⟨rfl,A⟩)
    go_roundw
    case rel=>
     refine⟨k+1,by omega,by go_num,fun j h hj=>?_,Qaa q A⟩
     rcases Nat.lt_or_ge j k with F|F
     ·exact I.out j h F
     ·obtain rfl:j=k:=by omega
      exact J.out
    case measure=>simp[intOf];omega
   ·rw[hp] at B
    have J:=Hk hp
    clear hp
    go_wp2_with (go_at_call 80;refine B.out.mono ?_;rintro e U ⟨rfl,A⟩)
    go_ret
    refine⟨QcK ?_,Qaa q A⟩
    rw[Qaq,Qdd D J.out (fun j hj=>I.out j (by omega) hj)]
  ·go_wp2
   go_ret
   refine⟨QcK ?_,q⟩
   rw[Qaq,Qgf (fun j hj=>I.out j hj (by have:=N.out;omega))]
theorem QaL (b o n c:Nat) (cs:List Cl) (h:ByteArray) (w:World) (z:cs.length=n) (y:n<=100) (A:b<w.heap.size) (q:Qas w b o cs):
 Calls Tryz.prog 54 #[.slice (some ⟨b,o,none⟩) n c,.string h] w fun e w'=>e=.returned (.int .i64 (Qaq cs h.data.toList))/\Below w.heap.size w w':=by
 have D:=mkF
 have B:=Hk (fun o'=>Qgg b o n c cs h w.heap.size (w.alloc (.cells #[.string h] o')) z y (by simp;omega) (q.below (Qab _ _) A) (by simp) (by simp))
 clear z q
 go_enter Tryz.func54,Tryz.ntmps54
 go_wp2_with (go_at_call 79;refine(B.out _).mono ?_;rintro e E ⟨rfl,j⟩)
 go_ret
 exact⟨rfl,Qaa (Qab _ _) j⟩
theorem place_any (v:Value) (cs:List Cl) (j:ByteArray) (w:World) (h:Qav w v cs) (q:1<=cs.length) (A:cs.length<=100):
 Calls Tryz.prog 54 #[v,.string j] w fun e w'=>e=.returned (.int .i64 (Qaq cs j.data.toList))/\Below w.heap.size w w':=by
 obtain⟨a,c,rfl,D,B,h⟩:=h
 rcases h with h|⟨b,o,rfl,z,y⟩
 ·rw[h] at q;simp at q
 ·exact QaL b o cs.length c cs j w rfl A z y
abbrev Ag:=ByteArray×Vl
def QaJ (cs:List Cl) (r:List Vl) (x:Ag):Vl:=if x.1.data.toList=[] then x.2 else match Qak cs x.1.data.toList with
 |some i=>r[i]?.getD (0,0,⟨#[]⟩)
 |none=>(0,0,⟨#[]⟩)
abbrev aggV (x:Vl):Value:=.agg #[.int .i64 x.1,.int .i64 x.2.1,.string x.2.2]
theorem Qg6 (j o:Value) (x:Ag) (w:World) (h:x.1.data.toList=[]):
 Calls Tryz.prog 67 #[j,o,.agg #[.string x.1,.int .i64 x.2.1,.int .i64 x.2.2.1,.string x.2.2.2]] w fun e w'=>e=.returned (aggV x.2)/\Below w.heap.size w w':=by
 have he:x.1.toList.isEmpty=true:=by rw[ByteArray.toList_eq,h];rfl
 clear h
 go_enter Tryz.func67,Tryz.ntmps67
 go_wp2
 refine bodyPost_ret (v:=aggV x.2) (by simp[results,Tryz.results67,go_sem]) rfl ⟨rfl,?_⟩
 exact((Below.refl _ _).alloc (Nat.le_refl _) _).alloc (by simp) _
theorem Qg7 (A D rc b o n c:Nat) (cs:List Cl) (r:List Vl) (x:Ag) (i:Nat) (w:World) (K:x.1.data.toList≠[]) (U:Qak cs x.1.data.toList=some i) (Z:i<r.length) (ai:r.length<=100)
 (N:cs.length=n) (M:n<=100) (hb:b<w.heap.size) (T:Qas w b o cs) (B:A<w.heap.size) (V:QaK w A D r):
 Calls Tryz.prog 67 #[.slice (some ⟨A,D,none⟩) r.length rc,.slice (some ⟨b,o,none⟩) n c,.agg #[.string x.1,.int .i64 x.2.1,.int .i64 x.2.2.1,.string x.2.2.2]] w fun e w'=>e=.returned (aggV r[i])/\Below w.heap.size w w':=by
 have he:x.1.toList.isEmpty=false:=by
  rw[ByteArray.toList_eq]
  cases h:x.1.data.toList with
  |nil=>exact absurd h K
  |cons a q=>rfl
 obtain⟨W,I⟩:∃W,W=(w.alloc (.cells #[.string x.1,.int .i64 x.2.1,.int .i64 x.2.2.1,.string x.2.2.2] 26)).alloc (.cells #[.int .i64 0,.int .i64 0,.string ⟨#[]⟩] 24):=⟨_,rfl⟩
 have z:Below w.heap.size w W:=by rw[I];exact((Below.refl _ _).alloc (Nat.le_refl _) _).alloc (by simp) _
 have E:=QaL b o n c cs x.1 W N M (by have:=z.size;omega) (T.below z hb)
 rw[show Qaq cs x.1.data.toList=(i:Int) by rw[Qaq,U]] at E
 rw[I] at E z
 have HP:=Hk E
 have O:=Hk z
 have J:=Hk (V i Z)
 clear K U N T V E z I
 go_enter Tryz.func67,Tryz.ntmps67
 go_wp2_with (go_at_call 54;refine HP.out.mono ?_;rintro e F ⟨rfl,j⟩;have y:=Qaa O.out j;have d0:=cK y B J.out.1;have d1:=cK y B J.out.2.1;have d2:=cK y B J.out.2.2;obtain⟨aj,ag⟩:=QbM j;have ah:w.heap.size+1<F.heap.size:=by(have:=j.size;simp at this;omega))
 have y:=Qaa O.out j
 have g0:F.cell? ⟨w.heap.size+1,0,none⟩=some (.int .i64 0):=(j.cell (p:=⟨w.heap.size+1,0,none⟩) (by simp)).trans (by simp)
 have g1:F.cell? ⟨w.heap.size+1,1,none⟩=some (.int .i64 0):=(j.cell (p:=⟨w.heap.size+1,1,none⟩) (by simp)).trans (by simp)
 have g2:F.cell? ⟨w.heap.size+1,2,none⟩=some (.string ⟨#[]⟩):=(j.cell (p:=⟨w.heap.size+1,2,none⟩) (by simp)).trans (by simp)
 refine bodyPost_ret (v:=aggV r[i]) (by simp[results,Tryz.results67,go_sem,g0,g1,g2]) rfl ⟨rfl,?_⟩
 exact((y.setCell (by show w.heap.size<=w.heap.size+1;omega) _).setCell (by show w.heap.size<=w.heap.size+1;omega) _).setCell (by show w.heap.size<=w.heap.size+1;omega) _
theorem Qeq (q z:Value) (cs:List Cl) (r:List Vl) (x:Ag) (w:World) (U:Qav w z cs) (T:Qbk w q r) (O:cs.length<=100) (E:r.length=cs.length) (I:x.1.data.toList=[]\/∃i,Qak cs x.1.data.toList=some i):
 Calls Tryz.prog 67 #[q,z,.agg #[.string x.1,.int .i64 x.2.1,.int .i64 x.2.2.1,.string x.2.2.2]] w fun e w'=>e=.returned (aggV (QaJ cs r x))/\Below w.heap.size w w':=by
 by_cases hx:x.1.data.toList=[]
 ·rw[QaJ,if_pos hx]
  exact Qg6 q z x w hx
 ·obtain⟨i,y⟩:=I.resolve_left hx
  have j:=Qaj y
  obtain⟨a,c,rfl,-,-,h⟩:=U
  obtain⟨V,K,rfl,-,A⟩:=T
  rcases h with h|⟨b,o,rfl,F,J⟩
  ·rw[h] at j;simp at j
  rcases A with A|⟨N,M,rfl,D,B⟩
  ·rw[A] at E;simp at E;omega
  have:=Qg7 N M K b o cs.length c cs r x i w hx y (by omega) (by omega) rfl O F J D B
  have e:QaJ cs r x=r[i]'(by omega):=by
   unfold QaJ
   rw[if_neg hx,y]
   show r[i]?.getD _=_
   rw[List.getElem?_eq_getElem (show i<r.length by omega)];rfl
  rw[e]
  exact this
def Qd1 (op:List UInt8) (less more:Bool):Bool:=
 if op=[61] then !less&& !more else if op=[60,62] then less||more else if op=[60] then less else if op=[60,61] then !more else if op=[62] then more else !less
def Qa7 (a b:Vl):Bool:=QcJ a.1 a.2.1 a.2.2.data.toList b.1 b.2.1 b.2.2.data.toList
theorem holds_any (op:ByteArray) (a b:Vl) (w:World):
 Calls Tryz.prog 66 #[.string op,aggV a,aggV b] w fun e w'=>e=.returned (.bool (Qd1 op.data.toList (Qa7 a b) (Qa7 b a)))/\Below w.heap.size w w':=by
 obtain⟨T,j⟩:∃m,Qa7 a b=m:=⟨_,rfl⟩
 obtain⟨N,o⟩:∃m,Qa7 b a=m:=⟨_,rfl⟩
 rw[j,o]
 unfold Qa7 at j o
 have J:=Hk j
 have B:=Hk o
 clear j o
 obtain⟨W,h⟩:∃W,W=(w.alloc (.cells #[.int .i64 a.1,.int .i64 a.2.1,.string a.2.2] 24)).alloc (.cells #[.int .i64 b.1,.int .i64 b.2.1,.string b.2.2] 24):=⟨_,rfl⟩
 have y:Below w.heap.size w W:=by rw[h];exact((Below.refl _ _).alloc (Nat.le_refl _) _).alloc (by simp) _
 have a0:W.cell? ⟨w.heap.size,0,none⟩=some (.int .i64 a.1):=by rw[h];simp
 have a1:W.cell? ⟨w.heap.size,1,none⟩=some (.int .i64 a.2.1):=by rw[h];simp
 have a2:W.cell? ⟨w.heap.size,2,none⟩=some (.string a.2.2):=by rw[h];simp
 have b0:W.cell? ⟨w.heap.size+1,0,none⟩=some (.int .i64 b.1):=by rw[h];simp
 have b1:W.cell? ⟨w.heap.size+1,1,none⟩=some (.int .i64 b.2.1):=by rw[h];simp
 have b2:W.cell? ⟨w.heap.size+1,2,none⟩=some (.string b.2.2):=by rw[h];simp
 have A0:=cell_regrown a0
 have O:=cell_regrown a1
 have M:=cell_regrown a2
 have V:=cell_regrown b0
 have U:=cell_regrown b1
 have K:=cell_regrown b2
 have z:∀x1 x2 x3 y1 y2 y3 d os,_:=fun x1 x2 x3 y1 y2 y3 d os=>Calls.regrown_of (Qko x1 x2 x3 y1 y2 y3 (Sort.grow (redrawn W d) os))
 have F:=Hk y
 clear y a0 a1 a2 b0 b1 b2
 go_enter Tryz.func66,Tryz.ntmps66
 go_wp2
 rw[<-h]
 clear h
 refine wp_region_quiet_below (by kernel_rfl) (by kernel_rfl) ?_
 repeat(any_goals(first|go_big_quiet_step (first|exact z _ _ _ _ _ _ _ _)|quiet_step (first|exact z _ _ _ _ _ _ _ _)))
 refine wpQuiet_nil ?_
 intro _ D
 obtain⟨⟨I,q⟩,A⟩:=D
 subst A
 have E:=Hk (Qaa F.out (below_regrown W I q))
 clear A0 O M V U K z F
 rw[J.out,B.out]
 generalize Sort.grow (redrawn W I) q=W5 at*
 cases T<;>cases N
 all_goals
  go_wp2
  all_goals go_ret
  all_goals refine⟨Qal ?_,E.out⟩
  all_goals simp_all [Qd1,ByteArray.toList_eq]
end Go.Proofs.YtofidnijfnhpaaaGreatDoor
