import Derived.Test.YtjlgejennghhlaaGreatDoorQ01
import Derived.Test.YtjlgejennghhlaaGreatDoorQ13
import Derived.Test.YtjlgejennghhlaaGreatDoorQ17
import Derived.Test.YtjlgejennghhlaaGreatDoorQ18
import Derived.Test.YtjlgejennghhlaaGreatDoorQ19
set_option linter.unusedSimpArgs false
set_option linter.unusedVariables false
set_option linter.unusedSectionVars false
set_option maxRecDepth 1000000
set_option maxHeartbeats 16000000
namespace Go.Proofs.YtjlgejennghhlaaGreatDoor
open Go.RowKit
theorem Qo6 (b o c y D M n:Nat) (cs:List Cl) (w:World) (K:cs.length=n) (h8:n<=100) (J:b<w.heap.size) (H:y<w.heap.size) (O:Qau w b o cs) (I:Qau w y D cs):
 Calls Tryz.prog 14 #[.slice (some ⟨b,o,none⟩) n c,.slice (some ⟨y,D,none⟩) n M] w fun e w'=>e=.returned (.bool true)/\Below w.heap.size w w':=by
 have N:=Hk K;clear K;go_enter Tryz.func14,Tryz.ntmps14;go_wp2;go_loopw [13] (fun i wr=>∃k:Nat,k<=n/\i=.int .i64 k/\Below w.heap.size w wr) (fun i _=>n-(intOf i).toNat)
 case atStart=>exact⟨0,Nat.zero_le _,rfl,Below.refl _ _⟩
 case round=>
  obtain⟨k,V,rfl,h⟩:=hrel
  by_cases hlt:k<n
  ·have F:k<cs.length:=by have:=N.out;omega
   obtain⟨c1,c2⟩:=O k F;have d1:=cK h J c1;have U:=cK h J c2;obtain⟨c3,c4⟩:=I k F;have Z:=cK h H c3;have d4:=cK h H c4;clear c1 c2 c3 c4;go_wp2;go_quiet (fail);go_wp2;go_roundw
   case rel=>exact⟨k+1,by omega,by go_num,below_drewN h _⟩
   case measure=>simp[intOf];omega
  ·go_wp2;go_ret;exact⟨rfl,h⟩
theorem QlF (a h:Option Addr) (c y:Nat) (w:World):
 Calls Tryz.prog 14 #[.slice a 0 c,.slice h 0 y] w fun e w'=>e=.returned (.bool true)/\Below w.heap.size w w':=by
 go_enter Tryz.func14,Tryz.ntmps14;go_wp2;go_loopw [13] (fun i wr=>i=.int .i64 0/\wr=w) (fun i _=>0)
 case atStart=>exact⟨rfl,rfl⟩
 case round=>
  obtain⟨rfl,rfl⟩:=hrel;go_wp2;go_ret;exact⟨rfl,Below.refl _ _⟩
theorem Qo7 (v D:Value) (cs:List Cl) (w:World) (h:Qax w v cs) (J:Qax w D cs) (V:cs.length<=60):
 Calls Tryz.prog 14 #[v,D] w fun e w'=>e=.returned (.bool true)/\Below w.heap.size w w':=by
 obtain⟨a,c,rfl,-,-,M⟩:=h;obtain⟨Z,N,rfl,-,-,F⟩:=J;rcases M with rfl|⟨b,o,rfl,K,I⟩
 ·exact QlF _ _ _ _ _
 ·rcases F with rfl|⟨O,U,rfl,H,y⟩
  ·exact QlF _ _ _ _ _
  ·exact Qo6 b o c O U N cs.length cs w rfl (by omega) K H I y
theorem Qqh (b o c y D O n:Nat) (H:List Vl) (w:World) (M:H.length=n) (h8:n<=100) (J:b<w.heap.size) (F:y<w.heap.size) (V:QaR w b o H) (K:QaR w y D H):
 Calls Tryz.prog 29 #[.slice (some ⟨b,o,none⟩) n c,.slice (some ⟨y,D,none⟩) n O] w fun e w'=>e=.returned (.bool true)/\Below w.heap.size w w':=by
 have U:=Hk M;clear M;go_enter Tryz.func29,Tryz.ntmps29;go_wp2;go_loopw [13] (fun i wr=>∃k:Nat,k<=n/\i=.int .i64 k/\Below w.heap.size w wr) (fun i _=>n-(intOf i).toNat)
 case atStart=>exact⟨0,Nat.zero_le _,rfl,Below.refl _ _⟩
 case round=>
  obtain⟨k,hk,rfl,h⟩:=hrel
  by_cases hlt:k<n
  ·have I:k<H.length:=by have:=U.out;omega
   obtain⟨c1,c2,c3⟩:=V k I;have d1:=cK h J c1;have Z:=cK h J c2;have d3:=cK h J c3;obtain⟨c4,c5,N⟩:=K k I;have d4:=cK h F c4;have d5:=cK h F c5;have d6:=cK h F N;clear c1 c2 c3 c4 c5 N;go_wp2;go_quiet (fail);go_wp2;go_roundw
   case rel=>exact⟨k+1,by omega,by go_num,below_drewN h _⟩
   case measure=>simp[intOf];omega
  ·go_wp2;go_ret;exact⟨rfl,h⟩
theorem QlG (a h:Option Addr) (c y:Nat) (w:World):
 Calls Tryz.prog 29 #[.slice a 0 c,.slice h 0 y] w fun e w'=>e=.returned (.bool true)/\Below w.heap.size w w':=by
 go_enter Tryz.func29,Tryz.ntmps29;go_wp2;go_loopw [13] (fun i wr=>i=.int .i64 0/\wr=w) (fun i _=>0)
 case atStart=>exact⟨rfl,rfl⟩
 case round=>
  obtain⟨rfl,rfl⟩:=hrel;go_wp2;go_ret;exact⟨rfl,Below.refl _ _⟩
theorem Qqi (v F:Value) (y:List Vl) (w:World) (h:Qcw w v y) (K:Qcw w F y) (Z:y.length<=60):
 Calls Tryz.prog 29 #[v,F] w fun e w'=>e=.returned (.bool true)/\Below w.heap.size w w':=by
 obtain⟨a,c,rfl,-,N⟩:=h;obtain⟨a',O,rfl,-,H⟩:=K;rcases N with rfl|⟨b,o,rfl,M,J⟩
 ·exact QlG _ _ _ _ _
 ·rcases H with rfl|⟨U,V,rfl,I,D⟩
  ·exact QlG _ _ _ _ _
  ·exact Qqh b o c U V O y.length y w rfl (by omega) M I J D
theorem QlH (v D:Value) (y:List Vl) (w:World) (h:Qcw w v y) (F:Qcw w D y) (I:y.length<=60):
 Calls Tryz.prog 28 #[v,D] w fun e w'=>e=.returned (.bool true)/\Below w.heap.size w w':=by
 have J:=Hk (Qqi v D y w h F I);obtain⟨a,c,rfl,-,-⟩:=h;obtain⟨K,M,rfl,-,-⟩:=F;go_enter Tryz.func28,Tryz.ntmps28;go_wp2_with (go_at_call 29;refine J.out.mono ?_;rintro e N ⟨rfl,H⟩);go_ret;exact⟨rfl,H⟩
theorem Qqj (b o c H J V n:Nat) (rs:List (List Vl)) (w:World) (O:rs.length=n) (h8:n<=100) (hr:∀r∈rs,r.length<=60) (Z:b<w.heap.size) (U:H<w.heap.size) (hc:Qdx w b o rs) (K:Qdx w H J rs):
 Calls Tryz.prog 27 #[.slice (some ⟨b,o,none⟩) n c,.slice (some ⟨H,J,none⟩) n V,.func (.func 28) #[] #[]] w fun e w'=>e=.returned (.bool true)/\Below w.heap.size w w':=by
 have HN:=Hk O;clear O;go_enter Tryz.func27,Tryz.ntmps27;go_wp2;go_loopw [17] (fun i wr=>∃k:Nat,k<=n/\i=.int .i64 k/\Below w.heap.size w wr) (fun i _=>n-(intOf i).toNat)
 case atStart=>exact⟨0,Nat.zero_le _,rfl,Below.refl _ _⟩
 case round=>
  obtain⟨k,hk,rfl,h⟩:=hrel
  by_cases hlt:k<n
  ·have D:k<rs.length:=by have:=HN.out;omega
   obtain⟨u,M,F⟩:=hc k D;have du:=cK h Z M;obtain⟨u',I,y⟩:=K k D;have du':=cK h U I;have HQ:=Hk (QlH u u' rs[k] wr (F.below h) (y.below h) (hr _ (List.getElem_mem D)));obtain⟨a3,c3,rfl,-,-⟩:=F;obtain⟨a4,c4,rfl,-,-⟩:=y;clear M I;go_wp2_with (go_at_call 28;refine HQ.out.mono ?_;rintro e w2 ⟨rfl,N⟩);go_roundw
   case rel=>exact⟨k+1,by omega,by go_num,h.trans (N.mono h.size)⟩
   case measure=>simp[intOf];omega
  ·go_wp2;go_ret;exact⟨rfl,h⟩
theorem QlI (a h:Option Addr) (c y:Nat) (f:Value) (w:World):
 Calls Tryz.prog 27 #[.slice a 0 c,.slice h 0 y,f] w fun e w'=>e=.returned (.bool true)/\Below w.heap.size w w':=by
 go_enter Tryz.func27,Tryz.ntmps27;go_wp2;go_loopw [17] (fun i wr=>i=.int .i64 0/\wr=w) (fun i _=>0)
 case atStart=>exact⟨rfl,rfl⟩
 case round=>
  obtain⟨rfl,rfl⟩:=hrel;go_wp2;go_ret;exact⟨rfl,Below.refl _ _⟩
theorem Qqk (v D:Value) (rs:List (List Vl)) (w:World) (h:QaG w v rs) (J:QaG w D rs) (Z:rs.length<=65) (O:∀r∈rs,r.length<=60):
 Calls Tryz.prog 27 #[v,D,.func (.func 28) #[] #[]] w fun e w'=>e=.returned (.bool true)/\Below w.heap.size w w':=by
 obtain⟨a,c,rfl,M⟩:=h;obtain⟨a',N,rfl,F⟩:=J;rcases M with rfl|⟨b,o,rfl,K,I⟩
 ·exact QlI _ _ _ _ _ _
 ·rcases F with rfl|⟨U,V,rfl,H,y⟩
  ·exact QlI _ _ _ _ _ _
  ·exact Qqj b o c U V N rs.length rs w rfl (by omega) O K H I y
theorem QnT (K J F D:Value) (cs:List Cl) (rs:List (List Vl)) (w:World) (U:Qax w K cs) (M:QaG w J rs) (I:Qax w F cs) (H:QaG w D rs) (h8:cs.length<=60) (O:rs.length<=65) (hl:∀r∈rs,r.length<=60):
 Calls Tryz.prog 12 #[.agg #[K,J],.agg #[F,D]] w fun e w'=>e=.returned (.bool true)/\Below w.heap.size w w':=by
 have V:=Hk (fun w1 (y:Below w.heap.size w w1)=>Qo7 K F cs w1 (U.below y) (I.below y) h8);have Z:=Hk (fun w1 (y:Below w.heap.size w w1)=>Qqk J D rs w1 (M.below y) (H.below y) O hl);obtain⟨a,c,rfl,-,-,-⟩:=U;obtain⟨a',c',rfl,-⟩:=M;obtain⟨a2,c2,rfl,-,-,-⟩:=I;obtain⟨a3,c3,rfl,-⟩:=H;go_enter Tryz.func12,Tryz.ntmps12;go_wp2_with (first|(go_at_call 14;refine(V.out _ ((Qaa _ _).trans ((Qaa _ _).mono (by simp)))).mono ?_;rintro e w2 ⟨rfl,h⟩;obtain⟨ac,ad⟩:=QaP h)|(go_at_call 27;refine(Z.out _ (((Qaa _ _).trans ((Qaa _ _).mono (by simp))).trans (h.mono (by simp;omega)))).mono ?_;rintro e w3 ⟨rfl,N⟩));go_ret;exact⟨rfl,((Qaa _ _).trans ((Qaa _ _).mono (by simp))).trans ((h.mono (by simp;omega)).trans (N.mono (by have:=h.size;simp at this;omega)))⟩
def QlJ (w:World) (v:Value) (ss:List ByteArray):Prop:=∃a c,v=.slice a ss.length c/\(∀s∈ss,s.size<=maxLen)/\(ss=[]\/∃b o,a=some ⟨b,o,none⟩/\b<w.heap.size/\Qco w b o ss)
theorem QlJ.below {w w':World} {v:Value} {D:List ByteArray} (h:QlJ w v D) (F:Below w.heap.size w w'):QlJ w' v D:=by
 obtain⟨a,c,e,I,h⟩:=h;refine⟨a,c,e,I,?_⟩;rcases h with h|⟨b,o,J,y,H⟩
 ·exact Or.inl h
 ·exact Or.inr ⟨b,o,J,Nat.lt_of_lt_of_le y F.size,H.below F y⟩
def QhF (cs:List Cl) (seen:List ByteArray):List ByteArray->Int
 |[]=>0
 |s::r=>if Qaq cs s.data.toList=none then 7 else if inS seen s.data.toList=true then 9 else QhF cs (seen++[s]) r
def QaQ (cs:List Cl) (ss:List ByteArray):Int:=if ss.length=0\/6<ss.length then 1 else QhF cs [] ss
theorem QlK (cs:List Cl) (h:List ByteArray) (k:Nat) (y:k<h.length):QhF cs (h.take k) (h.drop k)=if Qaq cs h[k].data.toList=none then 7 else if inS (h.take k) h[k].data.toList=true then 9 else QhF cs (h.take (k+1)) (h.drop (k+1)):=by
 rw[List.drop_eq_getElem_cons y,QhF,List.take_succ_eq_append_getElem y]
theorem Qco.take {w:World} {b o:Nat} {y:List ByteArray} (h:Qco w b o y) (k:Nat):Qco w b o (y.take k):=fun j hj=>by
 rw[List.getElem_take];exact h j (by rw[List.length_take] at hj;omega)
theorem QgP (F:Option Addr) (n y:Nat) (D:Value) (w:World) (h:n=0\/6<n) (I:n<=maxLen):
 Calls Tryz.prog 127 #[.slice F n y,D] w fun e w'=>e=.returned (QbK 1)/\Below w.heap.size w w':=by
 rw[QaS (by decide)];unfold maxLen at I
 by_cases H:n=0
 ·subst H;clear h;go_enter Tryz.func127,Tryz.ntmps127;go_wp2;go_ret;exact⟨rfl,Below.refl _ _⟩
 ·have J:(6:Int)<(n:Int):=by omega
  have h0':((n:Int)==0)=false:=by simp;omega
  clear h;go_enter Tryz.func127,Tryz.ntmps127;go_wp2;go_ret;exact⟨rfl,Below.refl _ _⟩
theorem QhG (U no nc b o n c m:Nat) (y:List ByteArray) (cs:List Cl) (w:World) (hm:y.length=m) (ay:0<m) (aw:m<=6) (aq:m<=nc) (ad:U<w.heap.size) (hs:Qco w U no y) (hn:cs.length=n) (ak:n<=100) (hb:b<w.heap.size) (hc:Qau w b o cs):
 Calls Tryz.prog 127 #[.slice (some ⟨U,no,none⟩) m nc,.slice (some ⟨b,o,none⟩) n c] w fun e w'=>e=.returned (QbK (QhF cs [] y))/\Below w.heap.size w w':=by
 have HP:=Hk (fun W (h1:Below w.heap.size w W) nm=>QaH b o n c cs nm W hn ak (by have:=h1.size;omega) (hc.below h1 hb));have HS:=Hk hs;have HM:=Hk hm;have h0':((m:Int)==0)=false:=by simp;omega
 have h6':¬((6:Int)<(m:Int)):=by omega
 have HH:=Hk (Ai hn hc);clear hn hc hs hm;go_enter Tryz.func127,Tryz.ntmps127;go_wp2;go_loopw [18] (fun i wr=>∃k:Nat,k<=m/\i=.int .i64 k/\QhF cs [] y=QhF cs (y.take k) (y.drop k)/\Below w.heap.size w wr) (fun i _=>m-(intOf i).toNat)
 case atStart=>exact⟨0,Nat.zero_le _,rfl,by simp,Below.refl _ _⟩
 case round=>
  obtain⟨k,hk,rfl,M,D⟩:=hrel;have J:=Hk (Ai M D)
  by_cases hlt:k<m
  ·have ac:k<y.length:=by have:=HM.out;omega
   have d1:=(D.cell (p:=⟨U,no+k,none⟩) ad).trans (HS.out k ac);have h:=QlK cs y k ac;have K:=Hk (fun nm=>HP.out wr D nm);have HC:=Hk (fun W (Z:Below wr.heap.size wr W) x=>QcN U no k nc (y.take k) x W (by rw[List.length_take];omega) (by omega) ((HS.out.below D ad).take k|>.below Z (by have:=D.size;omega)));have ax:(k:Int)<=(nc:Int):=by omega
   clear M D;generalize O:y[k]=sk at*
   cases gp:Qaq cs sk.data.toList with
   |none=>
    have I:=K.out sk;rw[show QaB cs sk.data.toList= -1 by rw[QaB,gp]] at I;rw[gp,if_pos rfl] at h;have N:=Hk I;have H:=Hk (J.out.1.trans h);clear I gp h O K HC;go_wp2_with (go_at_call 133;refine N.out.mono ?_;rintro e w1 ⟨rfl,F⟩);go_ret;refine⟨?_,bel_then J.out.2 F⟩;rw[H.out,QaS (by decide)];rfl
   |some q=>
    have I:=K.out sk;rw[show QaB cs sk.data.toList=(q:Int) by rw[QaB,gp]] at I;rw[gp,if_neg (by simp)] at h;have N:=Hk I;clear I gp K
    cases gi:inS (y.take k) sk.data.toList
    ·rw[gi,if_neg (by simp)] at h;have H:=Hk (J.out.1.trans h);have V:=Hk (fun W (Z:Below wr.heap.size wr W)=>by have:=HC.out W Z sk;rw[gi] at this;exact this);clear h O gi HC;go_wp2_with (first|(go_at_call 133;refine N.out.mono ?_;rintro e w1 ⟨rfl,F⟩)|(go_at_call 37;refine(V.out _ F).mono ?_;rintro e w2 ⟨rfl,rfl⟩));go_roundw
     case rel=>exact⟨k+1,by omega,by go_num,H.out,bel_then J.out.2 F⟩
     case measure=>simp[intOf];omega
    ·rw[gi,if_pos rfl] at h;have H:=Hk (J.out.1.trans h);have V:=Hk (fun W (Z:Below wr.heap.size wr W)=>by have:=HC.out W Z sk;rw[gi] at this;exact this);clear h O gi HC;go_wp2_with (first|(go_at_call 133;refine N.out.mono ?_;rintro e w1 ⟨rfl,F⟩)|(go_at_call 37;refine(V.out _ F).mono ?_;rintro e w2 ⟨rfl,rfl⟩));go_ret;refine⟨?_,bel_then J.out.2 F⟩;rw[H.out,QaS (by decide)];rfl
  ·have aj:k=m:=by omega
   subst aj;have HE:=Hk (show QhF cs [] y=0 by rw[M,List.drop_of_length_le (by have:=HM.out;omega)];rfl);clear M D;go_wp2;go_ret;rw[HE.out,QeH];exact⟨rfl,J.out.2⟩
theorem Tryz.infoInt:(Tryz.prog.info? 3).map (fun i=>(i.zero,i.size,i.bytes))=some (some (.int .i64 0),1,8):=by kernel_rfl
def intCells (ks:List Nat):List Value:=ks.map fun(k:Nat)=>.int .i64 (k:Int)
def QcA (w:World) (b o:Nat) (ks:List Nat):Prop:=∀(j:Nat) (h:j<ks.length),w.cell? ⟨b,o+j,none⟩=some (.int .i64 (ks[j]:Int))
theorem QcA.below {w w':World} {B b o:Nat} {D:List Nat} (h:QcA w b o D) (F:Below B w w') (y:b<B):QcA w' b o D:=fun j hj=>(F.cell (p:=⟨b,o+j,none⟩) y).trans (h j hj)
theorem QdG {w:World} {B:Nat} {v:Value} {y:List Nat} (h:w.ownsRow B 3 1 v y.length (intCells y)) (H:0<y.length):∃g c,v=.slice (some ⟨g,0,none⟩) y.length c/\B<=g/\g<w.heap.size/\QcA w g 0 y:=by
 obtain⟨g,c,rfl,F,D,I⟩:=Qcz h H;exact⟨g,c,rfl,F,D,fun j hj=>I j _ (by rw[intCells,List.getElem?_map,List.getElem?_eq_getElem hj];rfl)⟩
theorem Qpt (k:IntKind) (n:Int):∀u∈[Value.int k n],u.oneCell'=true:=by intro u h;simp at h;subst h;rfl
theorem QrP (a b:Int) (s:ByteArray):∀u∈[Value.int .i64 a,.int .i64 b,.string s],u.oneCell'=true:=by intro u h;simp at h;rcases h with rfl|rfl|rfl<;>rfl
theorem QrQ (b:Int) (s:ByteArray):∀u∈[Value.string s,.int .i64 b],u.oneCell'=true:=by intro u h;simp at h;rcases h with rfl|rfl<;>rfl
theorem Qrc (w:World) (a b c:Value) (t:TypeId) (H:Nat) (y:w.heap.size=H):∀j u,[a,b,c][j]? =some u->(w.alloc (.cells #[a,b,c] t)).cell? ((⟨H,0,none⟩:Addr).add j)=some u:=by
 intro j u h;subst y
 match j,h with
 |0,h=>simp at h;subst h;simp[Addr.add]
 |1,h=>simp at h;subst h;simp[Addr.add]
 |2,h=>simp at h;subst h;simp[Addr.add]
theorem news2 (w:World) (a b:Value) (t:TypeId) (H:Nat) (y:w.heap.size=H):∀j u,[a,b][j]? =some u->(w.alloc (.cells #[a,b] t)).cell? ((⟨H,0,none⟩:Addr).add j)=some u:=by
 intro j u h;subst y
 match j,h with
 |0,h=>simp at h;subst h;simp[Addr.add]
 |1,h=>simp at h;subst h;simp[Addr.add]
theorem QdV (O no nc b o n c m:Nat) (I:List ByteArray) (D:List Nat) (cs:List Cl) (w:World) (hm:I.length=m) (aF:m<=100) (ao:O<w.heap.size) (hs:Qco w O no I) (hn:cs.length=n) (aj:n<=100) (hb:b<w.heap.size) (hc:Qau w b o cs) (Z:D.length=m) (aa:∀j (h:j<I.length) (h':j<D.length),Qaq cs I[j].data.toList=some D[j]):
 Calls Tryz.prog 131 #[.slice (some ⟨b,o,none⟩) n c,.slice (some ⟨O,no,none⟩) m nc] w fun e w'=>∃v,e=.returned v/\w'.ownsRow w.heap.size 3 1 v D.length (intCells D)/\Below w.heap.size w w':=by
 obtain⟨i0,hi,ad,ag,ai⟩:=info_parts Tryz.infoInt;have HP:=Hk (fun W (h1:Below w.heap.size w W) nm=>QaH b o n c cs nm W hn aj (by have:=h1.size;omega) (hc.below h1 hb));have HS:=Hk hs;have N:=Hk (Ai hm (Ai Z aa));clear hn hc hs hm Z aa;go_enter Tryz.func131,Tryz.ntmps131;go_wp2;go_loopw [5,10] (fun l i wr=>∃k:Nat,k<=m/\i=.int .i64 k/\wr.ownsRow w.heap.size 3 1 l k (intCells (D.take k))/\Below w.heap.size w wr) (fun _ i _=>m-(intOf i).toNat)
 case atStart=>exact⟨0,Nat.zero_le _,rfl,World.ownsRow_nil _ _ _ _,Below.refl _ _⟩
 case round=>
  obtain⟨k,hk,rfl,y,F⟩:=hrel;obtain⟨la,lc,rfl⟩:=own_slice y;have U:=Hk (Ai y F);have aE:=F.size
  by_cases hlt:k<m
  ·have V:k<I.length:=by have:=N.out.1;omega
   have ab:k<D.length:=by have:=N.out.2.1;omega
   have d1:=(F.cell (p:=⟨O,no+k,none⟩) ao).trans (HS.out k V);have hP:=HP.out wr F I[k];rw[show QaB cs I[k].data.toList=((D[k]:Nat):Int) by rw[QaB,N.out.2.2 k V ab]] at hP;have ap:=Hk hP;have HT:=Hk (show intCells (D.take k)++[.int .i64 ((D[k]:Nat):Int)]=intCells (D.take (k+1)) by rw[List.take_succ_eq_append_getElem ab,intCells,intCells,List.map_append];rfl);clear y F hP;generalize I[k]=sk at*;generalize D[k]=kk at*;go_wp2_with (first|(go_at_call 133;refine ap.out.mono ?_;rintro e w1 ⟨rfl,J⟩)|(at_builtin;refine wpList_append_own _ rfl _ _ 73 rfl w.heap.size 3 i0 (.int .i64 0) 1 8 Tryz.underlying73 hi ad ag ai rfl (by decide) _ _ _ rfl ((owns_below U.out.1 J).alloc _) ⟨w1.heap.size,0,none⟩ 1 1 [.int .i64 (kk:Int)] rfl rfl (news1 _ _ _ _ rfl) (Qpt _ _) ?c3 ?c4 ?c5 ?_))
   case c3=>unfold maxLen;omega
   case c4=>omega
   case c5=>have:=J.size;simp;omega
   intro v' w5 H K _;have aG:=J.size;have M:Below w.heap.size w w5:=((bel_then U.out.2 J).alloc (by omega) _).grown K (by simp;omega) (fun q hq=>(U.out.1.lt q hq).1);rw[HT.out] at H;have HF:=Hk (Ai H M);clear H K M;go_wp2;go_roundw
   case rel=>exact⟨k+1,by omega,by go_num,HF.out.1,HF.out.2⟩
   case measure=>simp[intOf];omega
  ·have ah:k=m:=by omega
   subst ah;rw[List.take_of_length_le (by have:=N.out.2.1;omega)] at y;have HO:=Hk y;clear y F;go_wp2;go_ret;refine⟨_,rfl,?_,U.out.2⟩;rw[N.out.2.1];exact HO.out
def QbQ (ks:List Nat) (r:List Vl):List Vl:=ks.map fun k=>r[k]?.getD (0,0,⟨#[]⟩)
def Qbc (ks:List Nat) (cs:List Cl):List Cl:=ks.map fun k=>cs[k]?.getD (⟨#[]⟩,0)
theorem Qko (J K rc b o c:Nat) (r:List Vl) (h:List Nat) (w:World) (U:QaR w J K r) (O:J<w.heap.size) (hk:QcA w b o h) (hb:b<w.heap.size) (F:∀k∈h,k<r.length) (am:h.length<=100) (ak:r.length<=100):
 Calls Tryz.prog 173 #[.slice (some ⟨J,K,none⟩) r.length rc,.slice (some ⟨b,o,none⟩) h.length c] w fun e w'=>∃v,e=.returned v/\w'.ownsRow w.heap.size 46 3 v h.length (Qag (QbQ h r))/\Below w.heap.size w w':=by
 obtain⟨i0,hi,ac,ae,ah⟩:=info_parts Tryz.infoVal;have HS:=Hk (Ai U (Ai hk F));clear U hk F;go_enter Tryz.func173,Tryz.ntmps173;go_wp2;go_loopw [5,10] (fun l i wr=>∃k:Nat,k<=h.length/\i=.int .i64 k/\wr.ownsRow w.heap.size 46 3 l k (Qag (QbQ (h.take k) r))/\Below w.heap.size w wr) (fun _ i _=>h.length-(intOf i).toNat)
 case atStart=>exact⟨0,Nat.zero_le _,rfl,World.ownsRow_nil _ _ _ _,Below.refl _ _⟩
 case round=>
  obtain⟨k,hk,rfl,y,D⟩:=hrel;obtain⟨la,lc,rfl⟩:=own_slice y;have V:=Hk (Ai y D);have ax:=D.size
  by_cases F:k<h.length
  ·obtain⟨U,Z,hl⟩:=HS.out;have N:=hl _ (List.getElem_mem F);have d1:=(D.cell (p:=⟨b,o+k,none⟩) hb).trans (Z k F);obtain⟨e0,e1,e2⟩:=U _ N;have d2:=cK D O e0;have d3:=cK D O e1;have d4:=cK D O e2;have HT:=Hk (show Qag (QbQ (h.take k) r)++[.int .i64 r[h[k]].1,.int .i64 r[h[k]].2.1,.string r[h[k]].2.2]=Qag (QbQ (h.take (k+1)) r) by
    rw[List.take_succ_eq_append_getElem F,QbQ,QbQ,List.map_append,Qc9];simp[Qag,List.getElem?_eq_getElem N])
   have hq':((h[k]:Nat):Int)<(r.length:Int):=by omega
   generalize r[h[k]]=x at*;generalize h[k]=kk at*;clear y D U Z hl e0 e1 e2 N;go_wp2_with (at_builtin;refine wpList_append_own _ rfl _ _ 84 rfl w.heap.size 46 i0 (.agg #[.int .i64 0,.int .i64 0,.string ⟨#[]⟩]) 3 32 Tryz.underlying84 hi ac ae ah rfl (by decide) _ _ _ rfl (V.out.1.alloc _) ⟨wr.heap.size,0,none⟩ 1 1 [.int .i64 x.1,.int .i64 x.2.1,.string x.2.2] rfl rfl (Qrc _ _ _ _ _ _ rfl) (QrP _ _ _) ?c3 ?c4 ?c5 ?_)
   case c3=>unfold maxLen;omega
   case c4=>omega
   case c5=>simp;omega
   intro v' w5 H I _;have M:Below w.heap.size w w5:=(V.out.2.alloc (by omega) _).grown I (by simp;omega) (fun q N=>(V.out.1.lt q N).1);rw[HT.out] at H;have HF:=Hk (Ai H M);clear H I M;go_wp2;go_roundw
   case rel=>exact⟨k+1,by omega,by go_num,HF.out.1,HF.out.2⟩
   case measure=>simp[intOf];omega
  ·have ag:k=h.length:=by omega
   subst ag;rw[List.take_of_length_le (Nat.le_refl _)] at y;have HO:=Hk y;clear y D;go_wp2;go_ret;exact⟨_,rfl,HO.out,V.out.2⟩
theorem Qgr (M O rc b o c:Nat) (r:List Cl) (h:List Nat) (w:World) (N:Qau w M O r) (Z:M<w.heap.size) (hk:QcA w b o h) (hb:b<w.heap.size) (F:∀k∈h,k<r.length) (al:h.length<=100) (aj:r.length<=100):
 Calls Tryz.prog 130 #[.slice (some ⟨M,O,none⟩) r.length rc,.slice (some ⟨b,o,none⟩) h.length c] w fun e w'=>∃v,e=.returned v/\w'.ownsRow w.heap.size 64 2 v h.length (Qak (Qbc h r))/\Below w.heap.size w w':=by
 obtain⟨i0,hi,ac,ae,ag⟩:=info_parts Tryz.infoCol;have HS:=Hk (Ai N (Ai hk F));clear N hk F;go_enter Tryz.func130,Tryz.ntmps130;go_wp2;go_loopw [5,10] (fun l i wr=>∃k:Nat,k<=h.length/\i=.int .i64 k/\wr.ownsRow w.heap.size 64 2 l k (Qak (Qbc (h.take k) r))/\Below w.heap.size w wr) (fun _ i _=>h.length-(intOf i).toNat)
 case atStart=>exact⟨0,Nat.zero_le _,rfl,World.ownsRow_nil _ _ _ _,Below.refl _ _⟩
 case round=>
  obtain⟨k,hk,rfl,y,D⟩:=hrel;obtain⟨la,lc,rfl⟩:=own_slice y;have U:=Hk (Ai y D);have aw:=D.size
  by_cases F:k<h.length
  ·obtain⟨N,V,hl⟩:=HS.out;have K:=hl _ (List.getElem_mem F);have d1:=(D.cell (p:=⟨b,o+k,none⟩) hb).trans (V k F);obtain⟨e0,e1⟩:=N _ K;have d2:=cK D Z e0;have d3:=cK D Z e1;have HT:=Hk (show Qak (Qbc (h.take k) r)++[.string r[h[k]].1,.int .i64 r[h[k]].2]=Qak (Qbc (h.take (k+1)) r) by
    rw[List.take_succ_eq_append_getElem F,Qbc,Qbc,List.map_append];simp[Qak,List.getElem?_eq_getElem K])
   have hq':((h[k]:Nat):Int)<(r.length:Int):=by omega
   generalize r[h[k]]=x at*;generalize h[k]=kk at*;clear y D N V hl e0 e1 K;go_wp2_with (at_builtin;refine wpList_append_own _ rfl _ _ 51 rfl w.heap.size 64 i0 (.agg #[.string ⟨#[]⟩,.int .i64 0]) 2 24 Tryz.underlying51 hi ac ae ag rfl (by decide) _ _ _ rfl (U.out.1.alloc _) ⟨wr.heap.size,0,none⟩ 1 1 [.string x.1,.int .i64 x.2] rfl rfl (news2 _ _ _ _ _ rfl) (QrQ _ _) ?c3 ?c4 ?c5 ?_)
   case c3=>unfold maxLen;omega
   case c4=>omega
   case c5=>simp;omega
   intro v' w5 H I _;have J:Below w.heap.size w w5:=(U.out.2.alloc (by omega) _).grown I (by simp;omega) (fun q K=>(U.out.1.lt q K).1);rw[HT.out] at H;have HF:=Hk (Ai H J);clear H I J;go_wp2;go_roundw
   case rel=>exact⟨k+1,by omega,by go_num,HF.out.1,HF.out.2⟩
   case measure=>simp[intOf];omega
  ·have af:k=h.length:=by omega
   subst af;rw[List.take_of_length_le (Nat.le_refl _)] at y;have HO:=Hk y;clear y D;go_wp2;go_ret;exact⟨_,rfl,HO.out,U.out.2⟩
theorem QnU (h:List Nat) (r:List Vl):(QbQ h r).length=h.length:=by simp[QbQ]
theorem QlL {D:List Nat} {r:List Vl} (h:∀x∈r,x.2.2.size<=maxLen):∀x∈QbQ D r,x.2.2.size<=maxLen:=by
 intro x y;obtain⟨k,-,rfl⟩:=List.mem_map.1 y
 by_cases hk:k<r.length
 ·simp only[List.getElem?_eq_getElem hk,Option.getD_some];exact h _ (List.getElem_mem hk)
 ·rw[List.getElem?_eq_none (by omega)];exact Nat.zero_le _
theorem QiJ (v:Value) (r:List Vl) (b o c:Nat) (y:List Nat) (w:World) (V:Qcw w v r) (K:QcA w b o y) (Z:b<w.heap.size) (F:∀k∈y,k<r.length) (I:0<y.length) (H:y.length<=100) (D:r.length<=100):
 Calls Tryz.prog 173 #[v,.slice (some ⟨b,o,none⟩) y.length c] w fun e w'=>∃v,e=.returned v/\w'.ownsRow w.heap.size 46 3 v (QbQ y r).length (Qag (QbQ y r))/\Below w.heap.size w w':=by
 obtain⟨a,U,rfl,-,h⟩:=V;rcases h with h|⟨N,O,rfl,M,J⟩
 ·have:=F _ (List.getElem_mem I);rw[h] at this;simp at this
 ·rw[QnU];exact Qko N O U b o c r y w J M K Z F H D
theorem QgQ (v:Value) (rs:List (List Vl)) (b o c:Nat) (h:List Nat) (w:World) (hr:QaG w v rs) (hl:∀r∈rs,(∀k∈h,k<r.length)/\r.length<=100) (ar:0<h.length) (hb:b<w.heap.size) (ah:QcA w b o h) (h6:h.length<=100) (aP:rs.length<=100):
 Calls Tryz.prog 143 #[v,.slice (some ⟨b,o,none⟩) h.length c] w fun e w'=>∃v' us,e=.returned v'/\w'.ownsRow w.heap.size 84 1 v' rs.length us/\Qab w' w.heap.size us (rs.map (QbQ h))/\Below w.heap.size w w':=by
 obtain⟨i0,hi,aq,au,av⟩:=info_parts Tryz.infoRow;have HR:=Hk hr;have HL:=Hk hl;have HK:=Hk ah;clear hl ah;obtain⟨va,aS,rfl,-⟩:=hr;go_enter Tryz.func143,Tryz.ntmps143;go_wp2;go_loopw [5,10] (fun l i wr=>∃(k:Nat) (us:List Value),k<=rs.length/\i=.int .i64 k/\wr.ownsRow w.heap.size 84 1 l k us/\Qab wr w.heap.size us ((rs.take k).map (QbQ h))/\Below w.heap.size w wr) (fun _ i _=>rs.length-(intOf i).toNat)
 case atStart=>exact⟨0,[],Nat.zero_le _,rfl,World.ownsRow_nil _ _ _ _,Qab.nil _ _,Below.refl _ _⟩
 case round=>
  obtain⟨k,us,hk,rfl,F,y,H⟩:=hrel;obtain⟨la,lc,rfl⟩:=own_slice F;have J:=Hk (Ai F y);have HX:=Hk H;have aQ:=H.size
  by_cases hlt:k<rs.length
  ·obtain⟨b',o',c',ac,ao,ag⟩:=QgN HR.out (by omega);simp only[Value.slice.injEq,true_and] at ac;obtain⟨rfl,rfl⟩:=ac;obtain⟨u,hu,O⟩:=ag k hlt;have cu:=cK H ao hu;have ae:=O.below H;obtain⟨ua,uc,rfl⟩:=row_slice O;have K:=HL.out _ (List.getElem_mem hlt);have ad:=QiJ _ _ b o c h wr ae (HK.out.below H hb) (by omega) K.1 ar h6 K.2;have aj:∀x∈QbQ h rs[k],x.2.2.size<=maxLen:=QlL (by obtain⟨_,_,_,hs,_⟩:=O;exact hs);have HC:=Hk ad;have HS:=Hk (Ai aj K);clear ad ag hu O ae H F y aj K;generalize af:rs[k]=rk at*;have az:=Hk af;clear af;go_wp2_with (first|(go_at_call 173;refine HC.out.mono ?_;rintro e w1 ⟨v1,rfl,aa,I⟩;obtain⟨U,M,rfl⟩:=own_slice aa)|(at_builtin;refine wpList_append_own _ rfl _ _ 52 rfl w.heap.size 84 i0 (.slice none 0 0) 1 24 Tryz.underlying52 hi aq au av rfl (by decide) _ _ _ rfl ((owns_below J.out.1 I).alloc _) ⟨w1.heap.size,0,none⟩ 1 1 [.slice U (QbQ h rk).length M] rfl rfl (news1 _ _ _ _ rfl) (Qc2 _ _ _) ?c3 ?c4 ?c5 ?_))
   case c3=>unfold maxLen;omega
   case c4=>omega
   case c5=>have:=I.size;simp;omega
   intro v' w5 N D _;have aR:=I.size;have Z:Below w.heap.size w w5:=((bel_then HX.out I).alloc (by omega) _).grown D (by simp;omega) (fun q hq=>(J.out.1.lt q hq).1);have V:=((owns_below J.out.1 I).alloc (.cells #[.slice U (QbQ h rk).length M] 84));have ak:=((J.out.2.below I).below (Qaa w1 (.cells #[.slice U (QbQ h rk).length M] 84))).grow V D;have ai:=(aa.alloc (.cells #[.slice U (QbQ h rk).length M] 84)).kept D (Qb2 (by decide) (aa.alloc _) V);have ab:=ak.snoc (own_mono (by omega) ai) HS.out.1;rw[show(rs.take k).map (QbQ h)++[QbQ h rk]=(rs.take (k+1)).map (QbQ h) by rw[List.take_succ_eq_append_getElem hlt,az.out,List.map_append];rfl] at ab;have HF:=Hk (Ai N (Ai ab Z));clear N D ab Z ak ai V;go_wp2;go_roundw
   case rel=>exact⟨k+1,_,by omega,by go_num,HF.out.1,HF.out.2.1,HF.out.2.2⟩
   case measure=>simp[intOf];omega
  ·have aw:k=rs.length:=by omega
   subst aw;rw[List.take_of_length_le (Nat.le_refl _)] at y;clear J;have J:=Hk (Ai F y);clear F y H;go_wp2;go_ret;exact⟨_,us,rfl,J.out.1,J.out.2,HX.out⟩
def Qcl (w:World) (v:Value) (ss:List ByteArray):Prop:=∃a c,v=.slice a ss.length c/\ss.length<=c/\ss.length<=maxLen/\(ss=[]\/∃b o,a=some ⟨b,o,none⟩/\b<w.heap.size/\Qco w b o ss)
theorem Qcl.below {w w':World} {v:Value} {D:List ByteArray} (h:Qcl w v D) (F:Below w.heap.size w w'):Qcl w' v D:=by
 obtain⟨a,c,e,J,I,h⟩:=h;refine⟨a,c,e,J,I,?_⟩;rcases h with h|⟨b,o,K,y,H⟩
 ·exact Or.inl h
 ·exact Or.inr ⟨b,o,K,Nat.lt_of_lt_of_le y F.size,H.below F y⟩
theorem QdW (v Z:Value) (y:List ByteArray) (b o n c:Nat) (cs:List Cl) (w:World) (N:Qcl w v y) (U:cs.length=n) (H:n<=100) (M:b<w.heap.size) (O:Qau w b o cs):
 Calls Tryz.prog 127 #[v,.slice (some ⟨b,o,none⟩) n c] w fun e w'=>e=.returned (QbK (QaQ cs y))/\Below w.heap.size w w':=by
 obtain⟨a,D,rfl,F,I,h⟩:=N
 by_cases hf:y.length=0\/6<y.length
 ·rw[show QaQ cs y=1 by unfold QaQ;rw[if_pos hf]];exact QgP a y.length D _ w hf I
 ·rw[show QaQ cs y=QhF cs [] y by unfold QaQ;rw[if_neg hf]];rcases h with h|⟨V,no,rfl,K,J⟩
  ·rw[h] at hf;simp at hf
  ·exact QhG V no D b o n c y.length y cs w rfl (by omega) (by omega) F K J U H M O
theorem Qo8 (cs:List Cl):∀(F y:List ByteArray),QhF cs y F=0->∀s∈F,∃k,Qaq cs s.data.toList=some k
 |[],_,_,s,D=>absurd D (by simp)
 |a::r,y,h,s,D=>by
  rw[QhF] at h;split at h
  ·cases h
  ·rename_i H
   split at h
   ·cases h
   ·rcases List.mem_cons.1 D with rfl|D
    ·cases g:Qaq cs s.data.toList with
     |none=>exact absurd g H
     |some k=>exact⟨k,rfl⟩
    ·exact Qo8 cs r _ h s D
def Qaj (cs:List Cl) (ss:List ByteArray):List Nat:=ss.map fun s=>(Qaq cs s.data.toList).getD 0
theorem QcB {cs:List Cl} {y:List ByteArray} (h:QaQ cs y=0):0<y.length/\y.length<=6/\(∀s∈y,∃k,Qaq cs s.data.toList=some k):=by
 unfold QaQ at h;split at h
 ·cases h
 ·exact⟨by omega,by omega,Qo8 cs y [] h⟩
theorem QdX {cs:List Cl} {y:List ByteArray} (h:∀s∈y,∃k,Qaq cs s.data.toList=some k):∀j (D:j<y.length) (F:j<(Qaj cs y).length),Qaq cs y[j].data.toList=some (Qaj cs y)[j]:=by
 intro j D F;obtain⟨k,H⟩:=h _ (List.getElem_mem D);simp[Qaj,H]
theorem QcC {cs:List Cl} {y:List ByteArray} (h:∀s∈y,∃k,Qaq cs s.data.toList=some k):∀k∈Qaj cs y,k<cs.length:=by
 intro k H;obtain⟨s,F,rfl⟩:=List.mem_map.1 H;obtain⟨q,D⟩:=h s F;rw[D];exact Qap D
theorem Qgs (F N H aa b o n c:Nat) (cs:List Cl) (y:List ByteArray) (j:Jb) (w:World) (h:j.code=3) (ad:0<H) (ae:F<w.heap.size) (h0:w.cell? ⟨F,N,none⟩=some (.slice (some ⟨b,o,none⟩) n c)) (O:Qcl w j.cols y)
 (U:cs.length=n) (M:n<=100) (K:b<w.heap.size) (hc:Qau w b o cs):
 Calls Tryz.prog 96 #[.agg j.cells,.slice (some ⟨F,N,none⟩) H aa] w fun e w'=>e=.returned (QbK (QaQ cs y))/\Below w.heap.size w w':=by
 have I:=fun W (J:Below w.heap.size w W)=>QdW j.cols .nilIface y b o n c cs W (O.below J) U M (by have:=J.size;omega) (hc.below J K)
 obtain⟨ca,cc,V,-⟩:=O;unfold Jb.cells;rw[V] at I⊢;generalize QaQ cs y=r at*;obtain⟨code,D⟩:∃k,j.code=k:=⟨_,rfl⟩;rw[D] at h⊢;clear D;subst h;have HT:=Hk I;have htk':(0:Int)<(H:Int):=by omega
 clear I U hc V;go_enter Tryz.func96,Tryz.ntmps96;go_wp2_with (go_at_call 127;refine(HT.out _ (Qaa _ _)).mono ?_;rintro e w1 ⟨rfl,Z⟩);go_ret;exact⟨rfl,bel_then (Qaa _ _) Z⟩
theorem QeK (U ho Z ar b o n c:Nat) (cs:List Cl) (y:List ByteArray) (j:Jb) (w:World) (I:j.code=3) (aE:0<Z) (aF:U<w.heap.size) (h0:w.cell? ⟨U,ho,none⟩=some (.slice (some ⟨b,o,none⟩) n c)) (hs:Qcl w j.cols y) (he:QaQ cs y=0)
 (hn:cs.length=n) (ah:n<=100) (K:b<w.heap.size) (hc:Qau w b o cs):
 Calls Tryz.prog 97 #[.agg j.cells,.slice (some ⟨U,ho,none⟩) Z ar] w fun e w'=>∃u,e=.returned u/\w'.ownsRow w.heap.size 64 2 u (Qbc (Qaj cs y) cs).length (Qak (Qbc (Qaj cs y) cs))/\Below w.heap.size w w':=by
 obtain⟨l0,l6,F⟩:=QcB he;obtain⟨ca,cc,hj,aa,al,H⟩:=hs;rcases H with h|⟨nb,no,rfl,hl,H⟩
 ·rw[h] at l0;simp at l0
 have M:(Qaj cs y).length=y.length:=by simp[Qaj]
 have hT:=fun W (D:Below w.heap.size w W)=>QdV nb no cc b o n c y.length y (Qaj cs y) cs W rfl (by omega) (by have:=D.size;omega) (H.below D hl) hn ah (by have:=D.size;omega) (hc.below D K) M (QdX F)
 have V:=fun W (D:Below w.heap.size w W) g gc (hg:g<W.heap.size) (hi:QcA W g 0 (Qaj cs y))=>Qgr b o c g 0 gc cs (Qaj cs y) W (hc.below D K) (by have:=D.size;omega) hi hg (QcC F) (by omega) (by omega)
 rw[hn] at V;rw[show(Qbc (Qaj cs y) cs).length=(Qaj cs y).length by simp[Qbc]];unfold Jb.cells;rw[hj];obtain⟨code,O⟩:∃k,j.code=k:=⟨_,rfl⟩;rw[O] at I⊢;clear O;subst I;have N:0<(Qaj cs y).length:=by omega
 generalize af:Qaj cs y=ks at*;have HT:=Hk hT;have HQ:=Hk V;have htk':(0:Int)<(Z:Int):=by omega
 have HK:=Hk N;clear hT V hn hc hj H F M l0 l6 he af N al aa;go_enter Tryz.func97,Tryz.ntmps97;go_wp2_with (first|(go_at_call 131;refine(HT.out _ (Qaa _ _)).mono ?_;rintro e w1 ⟨v1,rfl,aj,J⟩;obtain⟨g,gc,rfl,aG,aq,ae⟩:=QdG aj HK.out)|(go_at_call 130;refine(HQ.out _ (bel_then (Qaa _ _) J) _ _ aq ae).mono ?_;rintro e w2 ⟨v2,rfl,ap,am⟩));go_ret;exact⟨_,rfl,own_mono (by have:=J.size;simp at this;omega) ap,bel_then (bel_then (Qaa _ _) J) am⟩
end Go.Proofs.YtjlgejennghhlaaGreatDoor
namespace Go.Proofs.YtjlgejennghhlaaGreatDoor.Fw
open Go.RowKit
theorem Qh0 (at_:Nat) (outs:List By) (retry:Int) (F:Value) (K R:Nat) (ts:List Tk) (w:World) (h:RD w R ts) (H:Box w K [.int .i64 (at_:Nat),.int .i64 0,F,.slice none 0 0,.slice none 0 0,.string ⟨#[]⟩,.string ⟨#[]⟩,.int .i64 0,.int .i64 0,.string ⟨#[]⟩,.string ⟨#[]⟩,.int .i64 0,.int .i64 0,.string ⟨#[]⟩,.int .i64 retry]) (D:R<K):
 Calls Tryz.prog 117 #[.pointer (some ⟨R,0,none⟩),.pointer (some ⟨K,0,none⟩)] w fun e w'=>Qgf (Qb8 at_ outs retry ts) F K e w.heap.size w' R/\But2 R K w w':=by
 cases hc:Qch ts with
 |error e=>exact QjC at_ outs retry F K R ts w h H D (fun c t h'=>by rw[hc] at h';cases h')
 |ok x=>
  obtain⟨c,t⟩:=x;have y:∀c' t',Qch ts=.ok (c',t')->c'=c:=fun c' t' h'=>by rw[hc] at h';simp only[Except.ok.injEq,Prod.mk.injEq] at h';exact h'.1.symm
  rcases QgD hc with rfl|rfl|rfl|rfl|rfl|rfl|rfl|rfl|rfl
  ·exact Qob at_ outs retry F K R ts w h H D y
  ·exact Qod at_ outs retry F K R ts w h H D y
  ·exact Qoe at_ outs retry F K R ts w h H D y
  ·exact Qof at_ outs retry F K R ts w h H D y
  ·exact Qog at_ outs retry F K R ts w h H D y
  ·exact QjC at_ outs retry F K R ts w h H D y
  ·exact Qoi at_ outs retry F K R ts w h H D y
  ·exact Qoh at_ outs retry F K R ts w h H D y
  ·exact Qoc at_ outs retry F K R ts w h H D y
end Go.Proofs.YtjlgejennghhlaaGreatDoor.Fw
