import Derived.Test.YtofidnijfnhpaaaGreatDoorQ01
import Derived.Test.YtofidnijfnhpaaaGreatDoorQ04
set_option linter.unusedSimpArgs false
set_option linter.unusedVariables false
set_option linter.unusedSectionVars false
set_option maxRecDepth 1000000
set_option maxHeartbeats 16000000
namespace Go.Proofs.YtofidnijfnhpaaaGreatDoor
open Go.RowKit
def QbO (w:World) (b o:Nat) (ss:List ByteArray):Prop:=∀(j:Nat) (h:j<ss.length),w.cell? ⟨b,o+j,none⟩=some (.string ss[j])
theorem QbO.below {w y:World} {B b o:Nat} {ss:List ByteArray} (h:QbO w b o ss) (z:Below B w y) (q:b<B):QbO y b o ss:=fun j hj=>(z.cell (p:=⟨b,o+j,none⟩) q).trans (h j hj)
def inS (ss:List ByteArray) (x:List UInt8):Bool:=ss.any fun s=>s.data.toList==x
theorem Qin (b o n c:Nat) (ss:List ByteArray) (x:ByteArray) (w:World) (F:ss.length=n) (J:n<=100) (I:QbO w b o ss):
 Calls Tryz.prog 102 #[.slice (some ⟨b,o,none⟩) n c,.string x] w fun e w'=>(∃i:Int,e=.returned (.int .i64 i)/\(0<=i↔inS ss x.data.toList=true)/\-1<=i)/\w'=w:=by
 have A:=Hk F
 clear F
 go_enter Tryz.func102,Tryz.ntmps102
 go_wp2
 go_loop [8] (fun i=>∃k:Nat,k<=n/\i=.int .i64 k/\(∀j (h:j<ss.length),j<k->(ss[j].data.toList==x.data.toList)=false)) (fun i=>n-(intOf i).toNat)
 case atStart=>exact⟨0,Nat.zero_le _,rfl,fun j _ h=>absurd h (by omega)⟩
 case round=>
  obtain⟨k,K,rfl,z⟩:=hrel
  have B:=Hk z
  clear z
  by_cases hlt:k<n
  ·have q:k<ss.length:=by have:=A.out;omega
   have d1:=I k q
   cases hp:(x.toList==ss[k].toList)
   ·go_wp2
    go_round
    case rel=>
     refine⟨k+1,by omega,by go_num,fun j h D=>?_⟩
     rcases Nat.lt_or_ge j k with y|y
     ·exact B.out j h y
     ·obtain rfl:j=k:=by omega
      rw[ByteArray.toList_eq,ByteArray.toList_eq] at hp
      rw[beq_eq_false_iff_ne] at hp⊢
      exact fun e=>hp e.symm
    case measure=>simp[intOf];omega
   ·go_wp2
    go_ret
    refine⟨⟨(k:Int),rfl,?_,by omega⟩,rfl⟩
    refine⟨fun _=>?_,fun _=>by omega⟩
    rw[ByteArray.toList_eq,ByteArray.toList_eq] at hp
    rw[inS,List.any_eq_true]
    exact⟨ss[k],List.getElem_mem q,by rw[beq_iff_eq] at hp⊢;exact hp.symm⟩
  ·go_wp2
   go_ret
   refine⟨⟨-1,rfl,?_,by omega⟩,rfl⟩
   refine⟨fun h=>absurd h (by omega),fun h=>?_⟩
   rw[inS,List.any_eq_true] at h
   obtain⟨s,E,he⟩:=h
   obtain⟨j,D,rfl⟩:=List.mem_iff_getElem.1 E
   have:=B.out j D (by have:=A.out;omega)
   rw[this] at he
   cases he
theorem Qb5 (b o n c:Nat) (ss:List ByteArray) (x:ByteArray) (w:World) (y:ss.length=n) (q:n<=100) (j:QbO w b o ss):
 Calls Tryz.prog 76 #[.slice (some ⟨b,o,none⟩) n c,.string x] w fun e w'=>e=.returned (.bool (inS ss x.data.toList))/\w'=w:=by
 have z:=Hk (Qin b o n c ss x w y q j)
 clear y j
 go_enter Tryz.func76,Tryz.ntmps76
 go_wp2_with (go_at_call 102;refine z.out.mono ?_;rintro e B ⟨⟨i,rfl,h,A⟩,rfl⟩)
 all_goals go_ret
 all_goals refine⟨Qal ?_,rfl⟩
 all_goals
  rw[Bool.eq_iff_iff,<-h]
  try simp
def Qa3:List ByteArray:=[⟨#[61]⟩,⟨#[60,62]⟩,⟨#[60]⟩,⟨#[60,61]⟩,⟨#[62]⟩,⟨#[62,61]⟩]
def Qax (cs:List Cl) (j:Jb):Int:=if inS Qa3 j.op.data.toList=false\/j.left.1.data.toList=[] then 1 else match Qak cs j.left.1.data.toList with
 |none=>7
 |some i=>if QaI cs j.right=(cs[i]?.getD (⟨#[]⟩,0)).2 then 0 else 13
def Qbp (n:Int):Value:=if n=0 then .nilIface else .iface 40 (.int .i64 n)
theorem Ql5 (w:World):QbO (w.alloc (.cells #[.string ⟨#[61]⟩,.string ⟨#[60,62]⟩,.string ⟨#[60]⟩,.string ⟨#[60,61]⟩,.string ⟨#[62]⟩,.string ⟨#[62,61]⟩] 9)) w.heap.size 0 Qa3:=by
 intro j o
 match j,o with
 |0,_=>simp[Qa3]
 |1,_=>simp[Qa3]
 |2,_=>simp[Qa3]
 |3,_=>simp[Qa3]
 |4,_=>simp[Qa3]
 |5,_=>simp[Qa3]
 |j+6,h=>exact absurd h (by simp[Qa3])
theorem Qlu (x:ByteArray) (W:World) (H:Nat) (h:W.heap.size=H):
 Calls Tryz.prog 76 #[.slice (some ⟨H,0,none⟩) 6 6,.string x] (W.alloc (.cells #[.string ⟨#[61]⟩,.string ⟨#[60,62]⟩,.string ⟨#[60]⟩,.string ⟨#[60,61]⟩,.string ⟨#[62]⟩,.string ⟨#[62,61]⟩] 9)) fun e w'=>e=.returned (.bool (inS Qa3 x.data.toList))/\w'=W.alloc (.cells #[.string ⟨#[61]⟩,.string ⟨#[60,62]⟩,.string ⟨#[60]⟩,.string ⟨#[60,61]⟩,.string ⟨#[62]⟩,.string ⟨#[62,61]⟩] 9):=by
 subst h
 exact Qb5 W.heap.size 0 6 6 Qa3 x _ rfl (by decide) (Ql5 W)
theorem Qgh (b o n c:Nat) (cs:List Cl) (j:Jb) (w:World) (J:cs.length=n) (ad:n<=100) (hb:b<w.heap.size) (K:Qas w b o cs) (hx:j.right.2.2.2.size<=maxLen):
 Calls Tryz.prog 45 #[.agg j.cells,.slice (some ⟨b,o,none⟩) n c] w fun e w'=>e=.returned (Qbp (Qax cs j))/\Below w.heap.size w w':=by
 have Z:=Hk (fun W (U:Below w.heap.size w W)=>Qet b o n c cs j.right W J ad (by have:=U.size;omega) (K.below U hb) hx)
 have I:=Hk (fun W (U:Below w.heap.size w W)=>QaL b o n c cs j.left.1 W J ad (by have:=U.size;omega) (K.below U hb))
 have D:=Hk (Qlu j.op)
 unfold Jb.cells
 cases g:inS Qa3 j.op.data.toList
 ·have A:Qax cs j=1:=by unfold Qax;rw[if_pos (Or.inl g)]
  rw[g] at D
  rw[A]
  clear A g J K
  go_enter Tryz.func45,Tryz.ntmps45
  go_wp2_with (go_at_call 76;refine(D.out _ _ (by simp)).mono ?_;rintro e w1 ⟨rfl,rfl⟩)
  go_ret
  exact⟨rfl,Qad (Qab _ _) _⟩
 ·rw[g] at D
  by_cases h0:j.left.1.data.toList=[]
  ·have he:j.left.1.toList.isEmpty=true:=by rw[ByteArray.toList_eq,h0];rfl
   have A:Qax cs j=1:=by unfold Qax;rw[if_pos (Or.inr h0)]
   rw[A]
   clear A g J K h0
   go_enter Tryz.func45,Tryz.ntmps45
   go_wp2_with (go_at_call 76;refine(D.out _ _ (by simp)).mono ?_;rintro e w1 ⟨rfl,rfl⟩)
   go_ret
   exact⟨rfl,Qad (Qab _ _) _⟩
  ·have he:j.left.1.toList.isEmpty=false:=by
    rw[ByteArray.toList_eq]
    cases h:j.left.1.data.toList with
    |nil=>exact absurd h h0
    |cons a q=>rfl
   cases gp:Qak cs j.left.1.data.toList with
   |none=>
    have A:Qax cs j=7:=by unfold Qax;rw[if_neg (by simp[g,h0]),gp]
    rw[show Qaq cs j.left.1.data.toList= -1 by rw[Qaq,gp]] at I
    rw[A]
    clear A g J K h0 gp
    go_enter Tryz.func45,Tryz.ntmps45
    go_wp2_with (first|(go_at_call 76;refine(D.out _ _ (by simp)).mono ?_;rintro e w1 ⟨rfl,rfl⟩)|(go_at_call 54;refine(I.out _ (Qad (Qab _ _) _)).mono ?_;rintro e w2 ⟨rfl,y⟩))
    go_ret
    exact⟨rfl,Qaa (Qad (Qab _ _) _) y⟩
   |some i=>
    have af:=Qaj gp
    rw[show Qaq cs j.left.1.data.toList=(i:Int) by rw[Qaq,gp]] at I
    have ao:(i:Int)<(n:Int):=by omega
    have A:Qax cs j=if QaI cs j.right=cs[i].2 then 0 else 13:=by
     unfold Qax;rw[if_neg (by simp[g,h0]),gp]
     simp only[List.getElem?_eq_getElem af,Option.getD_some]
    have hd:=(K i af).2
    rw[A]
    clear A g J h0 gp
    generalize cs[i]=ci at*
    obtain⟨kd,ae⟩:∃k,QaI cs j.right=k:=⟨_,rfl⟩
    rw[ae] at Z⊢
    clear ae
    by_cases B:kd=ci.2
    ·rw[if_pos B]
     have hkc':(kd != ci.2)=false:=by simp[B]
     clear B
     go_enter Tryz.func45,Tryz.ntmps45
     go_wp2_with (first|(go_at_call 76;refine(D.out _ _ (by simp)).mono ?_;rintro e w1 ⟨rfl,rfl⟩)|(go_at_call 54;refine(I.out _ (Qad (Qab _ _) _)).mono ?_;rintro e w2 ⟨rfl,y⟩))
     have z:=Qaa (Qad (Qab _ _) _) y
     have V:=cell_regrown ((y.cell (p:=⟨w.heap.size,10,none⟩) (by simp;omega)).trans (show _=some (Value.string j.right.1) by simp))
     have T:=cell_regrown ((y.cell (p:=⟨w.heap.size,11,none⟩) (by simp;omega)).trans (show _=some (Value.int .i64 j.right.2.1) by simp))
     have M:=cell_regrown ((y.cell (p:=⟨w.heap.size,12,none⟩) (by simp;omega)).trans (show _=some (Value.int .i64 j.right.2.2.1) by simp))
     have O:=cell_regrown ((y.cell (p:=⟨w.heap.size,13,none⟩) (by simp;omega)).trans (show _=some (Value.string j.right.2.2.2) by simp))
     have ed:=cell_regrown (cK z hb hd)
     have E:∀d os,_:=fun d os=>Calls.regrown_of (Z.out (Sort.grow (redrawn w2 d) os) (Qaa z (below_regrown _ _ _)))
     have HB:=Hk z
     clear D I Z z y
     refine wp_region_quiet_below (by kernel_rfl) (by kernel_rfl) ?_
     repeat(any_goals(first|go_big_quiet_step (exact E _ _)|quiet_step (exact E _ _)))
     refine wpQuiet_nil ?_
     intro _ N
     obtain⟨⟨dq,aj⟩,F⟩:=N
     subst F
     clear V T M O ed E
     go_wp2
     go_ret
     exact⟨rfl,Qaa HB.out (below_regrown _ _ _)⟩
    ·rw[if_neg B]
     have hkc':(kd != ci.2)=true:=by simp[B]
     clear B
     go_enter Tryz.func45,Tryz.ntmps45
     go_wp2_with (first|(go_at_call 76;refine(D.out _ _ (by simp)).mono ?_;rintro e w1 ⟨rfl,rfl⟩)|(go_at_call 54;refine(I.out _ (Qad (Qab _ _) _)).mono ?_;rintro e w2 ⟨rfl,y⟩))
     have z:=Qaa (Qad (Qab _ _) _) y
     have V:=cell_regrown ((y.cell (p:=⟨w.heap.size,10,none⟩) (by simp;omega)).trans (show _=some (Value.string j.right.1) by simp))
     have T:=cell_regrown ((y.cell (p:=⟨w.heap.size,11,none⟩) (by simp;omega)).trans (show _=some (Value.int .i64 j.right.2.1) by simp))
     have M:=cell_regrown ((y.cell (p:=⟨w.heap.size,12,none⟩) (by simp;omega)).trans (show _=some (Value.int .i64 j.right.2.2.1) by simp))
     have O:=cell_regrown ((y.cell (p:=⟨w.heap.size,13,none⟩) (by simp;omega)).trans (show _=some (Value.string j.right.2.2.2) by simp))
     have ed:=cell_regrown (cK z hb hd)
     have E:∀d os,_:=fun d os=>Calls.regrown_of (Z.out (Sort.grow (redrawn w2 d) os) (Qaa z (below_regrown _ _ _)))
     have HB:=Hk z
     clear D I Z z y
     refine wp_region_quiet_below (by kernel_rfl) (by kernel_rfl) ?_
     repeat(any_goals(first|go_big_quiet_step (exact E _ _)|quiet_step (exact E _ _)))
     refine wpQuiet_nil ?_
     intro _ N
     obtain⟨⟨dq,aj⟩,F⟩:=N
     subst F
     clear V T M O ed E
     go_wp2
     go_ret
     exact⟨rfl,Qaa HB.out (below_regrown _ _ _)⟩
def Qhc (op:List UInt8) (a b:Int):Int:=if op=[43] then a+b else if op=[45] then a-b else a*b
def Qau (n:Int):Prop:=-1000000000<=n/\n<=1000000000
instance (n:Int):Decidable (Qau n):=by unfold Qau;exact inferInstance
theorem Qgi {a b:Int} (o:Qau a) (j:Qau b): -1000000000000000000<=a*b/\a*b<=1000000000000000000:=by
 obtain⟨a1,a2⟩:=o
 obtain⟨b1,b2⟩:=j
 have h:(a*b).natAbs<=1000000000*1000000000:=by
  rw[Int.natAbs_mul]
  exact Nat.mul_le_mul (by omega) (by omega)
 omega
theorem Qio (op:ByteArray) (a b:Int) (w:World) (j:Qau a) (h:Qau b):
 Calls Tryz.prog 94 #[.string op,.int .i64 a,.int .i64 b] w fun e w'=>e=.returned (.int .i64 (Qhc op.data.toList a b))/\w'=w:=by
 obtain⟨q,o⟩:=Qgi j h
 obtain⟨a1,a2⟩:=j
 obtain⟨b1,b2⟩:=h
 go_enter Tryz.func94,Tryz.ntmps94
 go_wp2
 all_goals go_ret
 all_goals refine⟨QcK ?_,rfl⟩
 all_goals simp_all [Qhc,ByteArray.toList_eq]
theorem Qeu (n:Int) (w:World) (h:Qau n):
 Calls Tryz.prog 93 #[.int .i64 n] w fun e w'=>e=.returned (.tuple #[aggV (1,n,⟨#[]⟩),.nilIface])/\Below w.heap.size w w':=by
 obtain⟨j,o⟩:=h
 go_enter Tryz.func93,Tryz.ntmps93
 go_wp2
 refine bodyPost_ret (v:=.tuple #[aggV (1,n,⟨#[]⟩),.nilIface]) (by simp[results,Tryz.results93,go_sem]) rfl ⟨rfl,Qab _ _⟩
theorem QdK (n:Int) (w:World) (h:¬Qau n):
 Calls Tryz.prog 93 #[.int .i64 n] w fun e w'=>e=.returned (.tuple #[aggV (0,0,⟨#[]⟩),Qbp 2])/\Below w.heap.size w w':=by
 unfold Qau at h
 by_cases h1:n< -1000000000
 ·clear h
  go_enter Tryz.func93,Tryz.ntmps93
  go_wp2
  refine bodyPost_ret (v:=.tuple #[aggV (0,0,⟨#[]⟩),.iface 40 (.int .i64 2)]) (by simp[results,Tryz.results93,go_sem]) rfl ⟨rfl,Qab _ _⟩
 ·have j:1000000000<n:=by omega
  clear h
  go_enter Tryz.func93,Tryz.ntmps93
  go_wp2
  refine bodyPost_ret (v:=.tuple #[aggV (0,0,⟨#[]⟩),.iface 40 (.int .i64 2)]) (by simp[results,Tryz.results93,go_sem]) rfl ⟨rfl,Qab _ _⟩
def QaF:List ByteArray:=[⟨#[43]⟩,⟨#[45]⟩,⟨#[42]⟩]
theorem QhS (w:World):QbO (w.alloc (.cells #[.string ⟨#[43]⟩,.string ⟨#[45]⟩,.string ⟨#[42]⟩] 9)) w.heap.size 0 QaF:=by
 intro j o
 match j,o with
 |0,_=>simp[QaF]
 |1,_=>simp[QaF]
 |2,_=>simp[QaF]
 |j+3,h=>exact absurd h (by simp[QaF])
theorem Qjc (x:ByteArray) (W:World) (H:Nat) (j:W.heap.size=H) (h:inS QaF x.data.toList=true):
 Calls Tryz.prog 76 #[.slice (some ⟨H,0,none⟩) 3 3,.string x] (W.alloc (.cells #[.string ⟨#[43]⟩,.string ⟨#[45]⟩,.string ⟨#[42]⟩] 9)) fun e w'=>e=.returned (.bool true)/\w'=W.alloc (.cells #[.string ⟨#[43]⟩,.string ⟨#[45]⟩,.string ⟨#[42]⟩] 9):=by
 subst j
 rw[<-h]
 exact Qb5 W.heap.size 0 3 3 QaF x _ rfl (by decide) (QhS W)
def Qa8 (cs:List Cl) (j:Jb) (nm:List UInt8):Int:=match Qak cs nm with
 |none=>7
 |some i=>if(cs[i]?.getD (⟨#[]⟩,0)).2=1/\QaI cs j.left=1/\QaI cs j.right=1 then 0 else 13
theorem Qhd (b o n c cb co cc:Nat) (cs:List Cl) (N:ByteArray) (j:Jb) (w:World) (hj:j.cols=.slice (some ⟨cb,co,none⟩) 1 cc) (aT:cb<w.heap.size) (s0:w.cell? ⟨cb,co,none⟩=some (.string N)) (af:inS QaF j.op.data.toList=true)
 (hn:cs.length=n) (ah:n<=100) (T:b<w.heap.size) (hc:Qas w b o cs) (hx:j.left.2.2.2.size<=maxLen) (aH:j.right.2.2.2.size<=maxLen):
 Calls Tryz.prog 46 #[.agg j.cells,.slice (some ⟨b,o,none⟩) n c] w fun e w'=>e=.returned (Qbp (Qa8 cs j N.data.toList))/\Below w.heap.size w w':=by
 have V:=fun W (O:Below w.heap.size w W)=>Qet b o n c cs j.left W hn ah (by have:=O.size;omega) (hc.below O T) hx
 have Z:=fun W (O:Below w.heap.size w W)=>Qet b o n c cs j.right W hn ah (by have:=O.size;omega) (hc.below O T) aH
 have hP:=fun W (O:Below w.heap.size w W)=>QaL b o n c cs N W hn ah (by have:=O.size;omega) (hc.below O T)
 have HS:=Hk (fun W H hH=>Qjc j.op W H hH af)
 have U:Qaz (w.alloc (.cells j.cells 28)) w.heap.size j:=fun k v hk=>by rw[World.cell?_alloc_at _ _ _ _ rfl];exact hk
 unfold Jb.cells at U⊢
 rw[hj] at U⊢
 have aq:=Hk U
 clear U
 cases gp:Qak cs N.data.toList with
 |none=>
  have ht:Qa8 cs j N.data.toList=7:=by unfold Qa8;rw[gp]
  rw[show Qaq cs N.data.toList= -1 by rw[Qaq,gp]] at hP
  have HP:=Hk hP
  rw[ht]
  clear ht hn hc gp hP V Z af aq
  go_enter Tryz.func46,Tryz.ntmps46
  go_wp2_with (first|(go_at_call 76;refine(HS.out _ _ (by simp)).mono ?_;rintro e w1 ⟨rfl,rfl⟩)|(go_at_call 54;refine(HP.out _ (Qad (Qab _ _) _)).mono ?_;rintro e I ⟨rfl,q⟩))
  go_ret
  exact⟨rfl,Qaa (Qad (Qab _ _) _) q⟩
 |some i=>
  have ar:=Qaj gp
  rw[show Qaq cs N.data.toList=(i:Int) by rw[Qaq,gp]] at hP
  have aS:(i:Int)<(n:Int):=by omega
  have ht:Qa8 cs j N.data.toList=if cs[i].2=1/\QaI cs j.left=1/\QaI cs j.right=1 then 0 else 13:=by
   unfold Qa8;rw[gp]
   simp only[List.getElem?_eq_getElem ar,Option.getD_some]
  have hd:=(hc i ar).2
  rw[ht]
  have HP:=Hk hP
  clear ht hn gp hP af
  generalize cs[i]=ci at*
  obtain⟨kl,ap⟩:∃k,QaI cs j.left=k:=⟨_,rfl⟩
  obtain⟨kr,au⟩:∃k,QaI cs j.right=k:=⟨_,rfl⟩
  rw[ap] at V⊢
  rw[au] at Z⊢
  have ae:=Hk V
  have am:=Hk Z
  clear ap au V Z
  clear aq hc
  obtain⟨kc,ao⟩:∃k,ci.2=k:=⟨_,rfl⟩
  rw[ao] at hd⊢
  clear ao
  by_cases g1:kc=1
  ·subst g1
   by_cases g2:kl=1
   ·subst g2
    by_cases g3:kr=1
    ·subst g3
     rw[if_pos ⟨rfl,rfl,rfl⟩]
     go_enter Tryz.func46,Tryz.ntmps46
     go_wp2_with (first|(go_at_call 76;refine(HS.out _ _ (by simp)).mono ?_;rintro e w1 ⟨rfl,rfl⟩)|(go_at_call 54;refine(HP.out _ (Qad (Qab _ _) _)).mono ?_;rintro e I ⟨rfl,q⟩;have y:=Qaa (Qad (Qab _ _) _) q;have B:w.heap.size<I.heap.size:=(by have:=q.size;simp at this;omega);have d2:=cK y T hd;have q6:=(q.cell (p:=⟨w.heap.size,6,none⟩) (by simp;omega)).trans (show _=some (Value.string j.left.1) by simp);have q7:=(q.cell (p:=⟨w.heap.size,7,none⟩) (by simp;omega)).trans (show _=some (Value.int .i64 j.left.2.1) by simp);have q8:=(q.cell (p:=⟨w.heap.size,8,none⟩) (by simp;omega)).trans (show _=some (Value.int .i64 j.left.2.2.1) by simp);have q9:=(q.cell (p:=⟨w.heap.size,9,none⟩) (by simp;omega)).trans (show _=some (Value.string j.left.2.2.2) by simp);have K:=(q.cell (p:=⟨w.heap.size,10,none⟩) (by simp;omega)).trans (show _=some (Value.string j.right.1) by simp);have F:=(q.cell (p:=⟨w.heap.size,11,none⟩) (by simp;omega)).trans (show _=some (Value.int .i64 j.right.2.1) by simp);have M:=(q.cell (p:=⟨w.heap.size,12,none⟩) (by simp;omega)).trans (show _=some (Value.int .i64 j.right.2.2.1) by simp);have J:=(q.cell (p:=⟨w.heap.size,13,none⟩) (by simp;omega)).trans (show _=some (Value.string j.right.2.2.2) by simp);have E:=Hk (Ai q y);clear q y)|(go_at_call 77;fail))
     refine(ae.out _ E.out.2).mono ?_
     rintro e w3 ⟨rfl,z⟩
     have aN:=cK z B K
     have aM:=cK z B F
     have aK:=cK z B M
     have aJ:=cK z B J
     have A:=Qaa E.out.2 z
     have D:=Hk A
     clear z A
     go_wp2_with (go_at_call 77;refine(am.out _ D.out).mono ?_;rintro e w4 ⟨rfl,ad⟩)
     go_ret
     exact⟨rfl,Qaa D.out ad⟩
    ·rw[if_neg (fun h=>g3 h.2.2)]
     have g3':(kr != 1)=true:=by simp[g3]
     go_enter Tryz.func46,Tryz.ntmps46
     go_wp2_with (first|(go_at_call 76;refine(HS.out _ _ (by simp)).mono ?_;rintro e w1 ⟨rfl,rfl⟩)|(go_at_call 54;refine(HP.out _ (Qad (Qab _ _) _)).mono ?_;rintro e I ⟨rfl,q⟩;have y:=Qaa (Qad (Qab _ _) _) q;have B:w.heap.size<I.heap.size:=(by have:=q.size;simp at this;omega);have d2:=cK y T hd;have q6:=(q.cell (p:=⟨w.heap.size,6,none⟩) (by simp;omega)).trans (show _=some (Value.string j.left.1) by simp);have q7:=(q.cell (p:=⟨w.heap.size,7,none⟩) (by simp;omega)).trans (show _=some (Value.int .i64 j.left.2.1) by simp);have q8:=(q.cell (p:=⟨w.heap.size,8,none⟩) (by simp;omega)).trans (show _=some (Value.int .i64 j.left.2.2.1) by simp);have q9:=(q.cell (p:=⟨w.heap.size,9,none⟩) (by simp;omega)).trans (show _=some (Value.string j.left.2.2.2) by simp);have K:=(q.cell (p:=⟨w.heap.size,10,none⟩) (by simp;omega)).trans (show _=some (Value.string j.right.1) by simp);have F:=(q.cell (p:=⟨w.heap.size,11,none⟩) (by simp;omega)).trans (show _=some (Value.int .i64 j.right.2.1) by simp);have M:=(q.cell (p:=⟨w.heap.size,12,none⟩) (by simp;omega)).trans (show _=some (Value.int .i64 j.right.2.2.1) by simp);have J:=(q.cell (p:=⟨w.heap.size,13,none⟩) (by simp;omega)).trans (show _=some (Value.string j.right.2.2.2) by simp);have E:=Hk (Ai q y);clear q y)|(go_at_call 77;fail))
     refine(ae.out _ E.out.2).mono ?_
     rintro e w3 ⟨rfl,z⟩
     have aN:=cK z B K
     have aM:=cK z B F
     have aK:=cK z B M
     have aJ:=cK z B J
     have A:=Qaa E.out.2 z
     have D:=Hk A
     clear z A
     go_wp2_with (go_at_call 77;refine(am.out _ D.out).mono ?_;rintro e w4 ⟨rfl,ad⟩)
     go_ret
     exact⟨rfl,Qaa D.out ad⟩
   ·rw[if_neg (fun h=>g2 h.2.1)]
    have g2':(kl != 1)=true:=by simp[g2]
    go_enter Tryz.func46,Tryz.ntmps46
    go_wp2_with (first|(go_at_call 76;refine(HS.out _ _ (by simp)).mono ?_;rintro e w1 ⟨rfl,rfl⟩)|(go_at_call 54;refine(HP.out _ (Qad (Qab _ _) _)).mono ?_;rintro e I ⟨rfl,q⟩;have y:=Qaa (Qad (Qab _ _) _) q;have B:w.heap.size<I.heap.size:=(by have:=q.size;simp at this;omega);have d2:=cK y T hd;have q6:=(q.cell (p:=⟨w.heap.size,6,none⟩) (by simp;omega)).trans (show _=some (Value.string j.left.1) by simp);have q7:=(q.cell (p:=⟨w.heap.size,7,none⟩) (by simp;omega)).trans (show _=some (Value.int .i64 j.left.2.1) by simp);have q8:=(q.cell (p:=⟨w.heap.size,8,none⟩) (by simp;omega)).trans (show _=some (Value.int .i64 j.left.2.2.1) by simp);have q9:=(q.cell (p:=⟨w.heap.size,9,none⟩) (by simp;omega)).trans (show _=some (Value.string j.left.2.2.2) by simp);have K:=(q.cell (p:=⟨w.heap.size,10,none⟩) (by simp;omega)).trans (show _=some (Value.string j.right.1) by simp);have F:=(q.cell (p:=⟨w.heap.size,11,none⟩) (by simp;omega)).trans (show _=some (Value.int .i64 j.right.2.1) by simp);have M:=(q.cell (p:=⟨w.heap.size,12,none⟩) (by simp;omega)).trans (show _=some (Value.int .i64 j.right.2.2.1) by simp);have J:=(q.cell (p:=⟨w.heap.size,13,none⟩) (by simp;omega)).trans (show _=some (Value.string j.right.2.2.2) by simp);have E:=Hk (Ai q y);clear q y)|(go_at_call 77;fail))
    refine(ae.out _ E.out.2).mono ?_
    rintro e w3 ⟨rfl,z⟩
    have A:=Qaa E.out.2 z
    have D:=Hk A
    clear z A
    go_wp2
    go_ret
    exact⟨rfl,D.out⟩
  ·rw[if_neg (fun h=>g1 h.1)]
   have g1':(kc != 1)=true:=by simp[g1]
   go_enter Tryz.func46,Tryz.ntmps46
   go_wp2_with (first|(go_at_call 76;refine(HS.out _ _ (by simp)).mono ?_;rintro e w1 ⟨rfl,rfl⟩)|(go_at_call 54;refine(HP.out _ (Qad (Qab _ _) _)).mono ?_;rintro e I ⟨rfl,q⟩;have y:=Qaa (Qad (Qab _ _) _) q;have B:w.heap.size<I.heap.size:=(by have:=q.size;simp at this;omega);have d2:=cK y T hd;have q6:=(q.cell (p:=⟨w.heap.size,6,none⟩) (by simp;omega)).trans (show _=some (Value.string j.left.1) by simp);have q7:=(q.cell (p:=⟨w.heap.size,7,none⟩) (by simp;omega)).trans (show _=some (Value.int .i64 j.left.2.1) by simp);have q8:=(q.cell (p:=⟨w.heap.size,8,none⟩) (by simp;omega)).trans (show _=some (Value.int .i64 j.left.2.2.1) by simp);have q9:=(q.cell (p:=⟨w.heap.size,9,none⟩) (by simp;omega)).trans (show _=some (Value.string j.left.2.2.2) by simp);have K:=(q.cell (p:=⟨w.heap.size,10,none⟩) (by simp;omega)).trans (show _=some (Value.string j.right.1) by simp);have F:=(q.cell (p:=⟨w.heap.size,11,none⟩) (by simp;omega)).trans (show _=some (Value.int .i64 j.right.2.1) by simp);have M:=(q.cell (p:=⟨w.heap.size,12,none⟩) (by simp;omega)).trans (show _=some (Value.int .i64 j.right.2.2.1) by simp);have J:=(q.cell (p:=⟨w.heap.size,13,none⟩) (by simp;omega)).trans (show _=some (Value.string j.right.2.2.2) by simp);have E:=Hk (Ai q y);clear q y)|(go_at_call 77;fail))
   go_ret
   exact⟨rfl,E.out.2⟩
end Go.Proofs.YtofidnijfnhpaaaGreatDoor
