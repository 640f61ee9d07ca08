import Derived.Test.YtjlgejennghhlaaGreatDoorQ01
import Derived.Test.YtjlgejennghhlaaGreatDoorQ02
import Derived.Test.YtjlgejennghhlaaGreatDoorQ03
set_option linter.unusedSimpArgs false
set_option linter.unusedVariables false
set_option linter.unusedSectionVars false
set_option maxRecDepth 1000000
set_option maxHeartbeats 16000000
namespace Go.Proofs.YtjlgejennghhlaaGreatDoor
open Go.RowKit
theorem grown_below {w w':World} (h:Below w.heap.size w w') (row:Option Nat):w.grownBy w' row:=⟨h.os,h.tape,h.output,h.size,fun k hk _=>h.block k hk⟩
theorem owns_below {w w':World} {base:Nat} {e:TypeId} {size:Nat} {v:Value} {n:Nat} {xs:List Value} (h:w.ownsRow base e size v n xs) (y:Below w.heap.size w w'):w'.ownsRow base e size v n xs:=
 h.kept (grown_below y none) (by cases v.ownBlock<;>simp)
theorem own_mono {w:World} {base B:Nat} {e:TypeId} {size:Nat} {v:Value} {n:Nat} {xs:List Value} (I:B<=base) (h:w.ownsRow base e size v n xs):w.ownsRow B e size v n xs:=by
 obtain⟨D,h|⟨g,F,y,H,J,r⟩⟩:=h
 ·exact⟨D,Or.inl h⟩
 ·exact⟨D,Or.inr ⟨g,F,y,H,by omega,r⟩⟩
theorem Qfi (s h:ByteArray) (w:World) (F:s.size<=1000000) (y:Env w):
 Calls Tryz.prog 47 #[.string s,.string h] w fun e w'=>e=.returned (.tuple #[.string ⟨(Lib.cut s.data.toList h.data.toList).1.toArray⟩,.string ⟨(Lib.cut s.data.toList h.data.toList).2.1.toArray⟩,.bool (Lib.cut s.data.toList h.data.toList).2.2])/\Below w.heap.size w w':=by
 obtain⟨m,D⟩:=y.mx;exact(Tryz.strings_Cut s h m w (by omega) D).mono fun _ _ ⟨h1,n,h2⟩=>⟨h1,by rw[h2];exact below_drewN (Below.refl _ _) _⟩
def QdD (s:ByteArray):List ByteArray:=Lib.splitB ⟨#[32]⟩ 0 (min 7 (s.size+1)-1) s
theorem Qj8 (s:ByteArray) (w:World) (D:s.size<=1000000) (h:Env w):
 Calls Tryz.prog 85 #[.string s,.string ⟨#[32]⟩,.int .i64 7] w fun e w'=>e=.returned (.slice (some ⟨w.heap.size,0,none⟩) (QdD s).length (min 7 (s.size+1)))/\w'=w.alloc (.cells (Lib.cellsOf (QdD s) (min 7 (s.size+1))) 9):=by
 obtain⟨m,y⟩:=h.mx;exact Tryz.strings_SplitN s ⟨#[32]⟩ 7 m w (by omega) y (by decide) (by decide) (by decide)
theorem Qgk (h:ByteArray):∀(k:Nat) (s:ByteArray),(Lib.splitB h 0 k s).length<=k+1
 |0,s=>by simp[Lib.splitB]
 |k+1,s=>by
  unfold Lib.splitB;split
  ·simp
  ·simp;exact Qgk h k _
theorem Qfj (y:ByteArray):∀(k:Nat) (s:ByteArray),∀x∈Lib.splitB y 0 k s,x.size<=s.size
 |0,s=>by simp[Lib.splitB]
 |k+1,s=>by
  intro x h;unfold Lib.splitB at h;split at h
  ·simp at h;rw[h];exact Nat.le_refl _
  ·simp at h;rcases h with h|h
   ·rw[h];simp;omega
   ·have:=Qfj y k _ x h;simp at this;omega
theorem Qlt (s:ByteArray):(QdD s).length<=min 7 (s.size+1):=by
 have:=Qgk ⟨#[32]⟩ (min 7 (s.size+1)-1) s;unfold QdD;omega
theorem Qj9 (s x:ByteArray) (h:x∈QdD s):x.size<=s.size:=Qfj _ _ _ _ h
theorem Qka {l:List ByteArray} {N j:Nat} (h:j<l.length):(Lib.cellsOf l N)[j]? =some (.string l[j]):=by
 simp[Lib.cellsOf,List.getElem?_append,h]
def Qgd (p:ByteArray):Cl:=(⟨(Lib.cut p.data.toList [58]).1.toArray⟩,Qiz (Lib.cut p.data.toList [58]).2.1)
def colsOf (s:ByteArray):List Cl:=(QdD s).map Qgd
def Qak (cs:List Cl):List Value:=cs.flatMap fun c=>[.string c.1,.int .i64 c.2]
theorem QeG (cs:List Cl):(Qak cs).length=cs.length*2:=by
 induction cs with
 |nil=>rfl
 |cons c r ih=>simp only[Qak,List.flatMap_cons,List.length_append,List.length_cons,List.length_nil] at ih⊢;omega
theorem Qfk (a b:List Cl):Qak (a++b)=Qak a++Qak b:=by simp[Qak]
theorem QdE:∀(cs:List Cl) (j:Nat) (h:j<cs.length),(Qak cs)[j*2]? =some (.string cs[j].1)/\(Qak cs)[j*2+1]? =some (.int .i64 cs[j].2)
 |[],_,h=>absurd h (by simp)
 |c::r,0,_=>⟨rfl,rfl⟩
 |c::r,j+1,h=>by
  have:=QdE r j (by simpa using h);have e:Qak (c::r)=.string c.1::.int .i64 c.2::Qak r:=by simp[Qak]
  rw[e,show(j+1)*2=j*2+1+1 by omega];simpa using this
theorem Qbl {w:World} {base:Nat} {v:Value} {cs:List Cl} (h:w.ownsRow base 64 2 v cs.length (Qak cs)) (H:∀x∈cs,x.1.size<=maxLen):Qax w v cs:=by
 have D:=h;obtain⟨-,h|⟨g,F,M,rfl,U,O,y,N,_,_⟩⟩:=h
 ·obtain⟨rfl,y⟩:=h;exact⟨none,0,by rw[y],by omega,H,Or.inl (List.length_eq_zero_iff.1 y)⟩
 ·refine⟨some ⟨g,0,none⟩,F,rfl,y,H,Or.inr ⟨g,0,rfl,(D.lt g rfl).2,fun j hj=>?_⟩⟩;have I:=QdE cs j hj;have J:=D.cellAt (j*2) (by omega);have K:=D.cellAt (j*2+1) (by omega);rw[show 0+j*2=j*2 by omega];exact⟨J.trans I.1,K.trans I.2⟩
theorem Qfl (l h:List UInt8):(Lib.cut l h).1.length<=l.length/\(Lib.cut l h).2.1.length<=l.length:=by
 unfold Lib.cut;split
 ·simp;omega
 ·simp
def Qfm (e:Ending) (w':World) (B:Nat) (cs:List Cl):Prop:=
 if Qai cs=true then∃v,e=.returned (.tuple #[v,.bool true])/\w'.ownsRow B 64 2 v cs.length (Qak cs)/\∀x∈cs,x.1.size<=maxLen else e=.returned (.tuple #[.slice none 0 0,.bool false])
theorem Tryz.infoCol:(Tryz.prog.info? 64).map (fun i=>(i.zero,i.size,i.bytes))=some (some (.agg #[.string ⟨#[]⟩,.int .i64 0]),2,24):=by kernel_rfl
theorem QdP (s:ByteArray) (w:World) (hs:s.size<=100000) (hE:Env w):
 Calls Tryz.prog 48 #[.string s] w fun e w'=>Below w.heap.size w w'/\Qfm e w' w.heap.size (colsOf s):=by
 obtain⟨i0,hi,ak,al,ap⟩:=info_parts Tryz.infoCol;have HS:=Hk (Qj8 s w (by omega) hE);have ab:=Qlt s;have ae:=Qj9 s;have Z:=Hk ae;clear ae;generalize ai:QdD s=ps at*;have ar:=Hk ai;clear ai;have aK:ps.length<=7:=by omega
 have aI:=Hk ab;have HE:=Hk hE;clear ab hE;go_enter Tryz.func48,Tryz.ntmps48;go_wp2_with (go_at_call 85;refine HS.out.mono ?_;rintro e w1 ⟨rfl,rfl⟩);have ah:Below w.heap.size w (w.alloc (.cells (Lib.cellsOf ps (min 7 (s.size+1))) 9)):=Qaa _ _;have aw:∀j (h:j<ps.length),(w.alloc (.cells (Lib.cellsOf ps (min 7 (s.size+1))) 9)).cell? ⟨w.heap.size,j,none⟩=some (.string ps[j]):=fun j h=>by
  rw[World.cell?_alloc_at _ _ _ _ rfl];exact Qka h
 have ax:=Hk (HE.out.below ah);have N:(w.alloc (.cells (Lib.cellsOf ps (min 7 (s.size+1))) 9)).heap.size=w.heap.size+1:=by simp
 generalize w.alloc (.cells (Lib.cellsOf ps (min 7 (s.size+1))) 9)=W at*;have O:=Hk N;clear N;go_loopw [4,13] (fun v i wr=>∃k:Nat,k<=ps.length/\i=.int .i64 k/\wr.ownsRow W.heap.size 64 2 v k (Qak ((ps.map Qgd).take k))/\Below W.heap.size W wr) (fun _ i _=>ps.length-(intOf i).toNat)
 case atStart=>exact⟨0,Nat.zero_le _,rfl,World.ownsRow_nil _ _ _ _,Below.refl _ _⟩
 case round=>
  obtain⟨k,hk,rfl,y,D⟩:=hrel
  by_cases hlt:k<ps.length
  ·have ay:w.heap.size<W.heap.size:=by have:=O.out;omega
   have d:=(D.cell (p:=⟨w.heap.size,k,none⟩) ay).trans (aw k hlt);have aJ:ps[k].size<=100000:=by have:=Z.out _ (List.getElem_mem hlt);omega
   have af:=Hk (ax.out.below D);go_wp2_with (first|(go_at_call 47;refine(Qfi _ _ _ (by omega) af.out).mono ?_;rintro e w2 ⟨rfl,F⟩)|(go_at_call 86;refine(Qj7 _ _ (af.out.below F)).mono ?_;rintro e w3 ⟨rfl,rfl⟩)|(at_builtin;refine wpList_append_own _ rfl _ _ 51 rfl W.heap.size 64 i0 (.agg #[.string ⟨#[]⟩,.int .i64 0]) 2 24 Tryz.underlying51 hi ak al ap rfl (by decide) _ _ _ rfl ((owns_below y F).alloc _) ⟨w3.heap.size,0,none⟩ 1 1 [.string (Qgd ps[k]).1,.int .i64 (Qgd ps[k]).2] rfl rfl ?c1 ?c2 ?c3 ?c4 ?c5 ?_))
   case c1=>
    intro j u H
    match j,H with
    |0,H=>simp at H;subst H;simp[Addr.add,Qgd]
    |1,H=>simp at H;subst H;simp[Addr.add,Qgd]
   case c2=>intro u hu;simp at hu;rcases hu with rfl|rfl<;>rfl
   case c3=>unfold maxLen;omega
   case c4=>omega
   case c5=>have:=D.size;have:=F.size;simp;omega
   ·intro v' w4 U V _;go_wp2;go_roundw
    case rel=>exact⟨k+1,by omega,by go_num,by rw[List.take_succ_eq_append_getElem (by simpa using hlt),Qfk,List.getElem_map];exact U,(((D.trans (F.mono D.size)).alloc (by have:=D.size;have:=F.size;omega) _).grown V (by have:=D.size;have:=F.size;simp;omega) (fun q hq=>(y.lt q hq).1))⟩
    case measure=>simp[intOf];omega
  ·have ao:k=ps.length:=by omega
   subst ao;rw[List.take_of_length_le (by simp)] at y;have ac:colsOf s=ps.map Qgd:=by rw[colsOf,ar.out]
   have M:∀x∈ps.map Qgd,x.1.size<=maxLen:=by
    intro x hx;rw[List.mem_map] at hx;obtain⟨p,hp,rfl⟩:=hx;have h1:=Z.out p hp;have h2:=(Qfl p.data.toList [58]).1;simp at h2
    show(Lib.cut p.data.toList [58]).1.toArray.size<=maxLen
    unfold maxLen;simp;omega
   have K:=own_mono (show w.heap.size<=W.heap.size by have:=O.out;omega) y;have ad:Qax wr _ (ps.map Qgd):=Qbl (by rw[List.length_map];exact y) M;have HC:=Hk (Qb5 _ _ _ ad);have ag:=Hk ac;have av:=Hk K;have HZ:=Hk M;clear ad ac y M K;have aa:Below w.heap.size w wr:=ah.trans (D.mono (by have:=O.out;omega));have J:=Hk aa;clear aa
   cases g:Qai (ps.map Qgd)
   ·go_wp2_with (go_at_call 30;refine HC.out.mono ?_;rintro e w5 ⟨rfl,I⟩;rw[g])
    go_ret2
    refine⟨J.out.trans (I.mono J.out.size),?_⟩;rw[ag.out,Qfm,if_neg (by simp[g])];rfl
   ·go_wp2_with (go_at_call 30;refine HC.out.mono ?_;rintro e w5 ⟨rfl,I⟩;rw[g])
    go_ret2
    refine⟨J.out.trans (I.mono J.out.size),?_⟩;rw[ag.out,Qfm,if_pos g];exact⟨_,rfl,by rw[List.length_map];exact owns_below av.out I,HZ.out⟩
abbrev V3:=Int×Int×List UInt8
def vl (x:V3):Vl:=(x.1,x.2.1,⟨x.2.2.toArray⟩)
def QaU:List Cl->List UInt8->Bool->Option (List V3)
 |[],_,more=>if more then none else some []
 |c::q,rest,_=>match Qbi (cutV false rest).1 with
  |none=>none
  |some v=>if v.1=c.2 then(QaU q (cutV false rest).2.1 (cutV false rest).2.2).map (v::·) else none
def Qag (vs:List Vl):List Value:=vs.flatMap fun v=>[.int .i64 v.1,.int .i64 v.2.1,.string v.2.2]
theorem Qc9 (a b:List Vl):Qag (a++b)=Qag a++Qag b:=by simp[Qag]
theorem QcM:∀(y:List Vl) (j:Nat) (h:j<y.length),(Qag y)[j*3]? =some (.int .i64 y[j].1)/\(Qag y)[j*3+1]? =some (.int .i64 y[j].2.1)/\(Qag y)[j*3+2]? =some (.string y[j].2.2)
 |[],_,h=>absurd h (by simp)
 |c::r,0,_=>⟨rfl,rfl,rfl⟩
 |c::r,j+1,h=>by
  have:=QcM r j (by simpa using h);have e:Qag (c::r)=.int .i64 c.1::.int .i64 c.2.1::.string c.2.2::Qag r:=by simp[Qag]
  rw[e,show(j+1)*3=j*3+1+1+1 by omega];simpa using this
theorem QbB {w:World} {base:Nat} {v:Value} {y:List Vl} (h:w.ownsRow base 46 3 v y.length (Qag y)) (J:∀x∈y,x.2.2.size<=maxLen):Qcw w v y:=by
 have D:=h;obtain⟨-,h|⟨g,I,O,rfl,Z,V,H,U,_,_⟩⟩:=h
 ·obtain⟨rfl,H⟩:=h;exact⟨none,0,by rw[H],J,Or.inl (List.length_eq_zero_iff.1 H)⟩
 ·refine⟨some ⟨g,0,none⟩,I,rfl,J,Or.inr ⟨g,0,rfl,(D.lt g rfl).2,fun j hj=>?_⟩⟩;have F:=QcM y j hj;have K:=D.cellAt (j*3) (by omega);have N:=D.cellAt (j*3+1) (by omega);have M:=D.cellAt (j*3+2) (by omega);rw[show 0+j*3=j*3 by omega];exact⟨K.trans F.1,N.trans F.2.1,M.trans F.2.2⟩
theorem Qe0:∀(l:List UInt8) (q:Bool),(cutV q l).1.length<=l.length/\(cutV q l).2.1.length<=l.length
 |[],_=>⟨Nat.le_refl _,Nat.le_refl _⟩
 |c::r,q=>by
  have h:=Qe0 r q;have y:=Qe0 r (!q);unfold cutV;split
  ·simp;omega
  ·split
   ·simp
   ·simp;omega
theorem Qkb {l:List UInt8} {v:V3} (h:Qbi l=some v):Qao v.1 v.2.1 v.2.2=true/\v.2.2.length<=16:=by
 unfold Qbi at h;split at h
 ·rename_i y
  injection h with h;subst h;exact⟨y.1,(Qa2 y.1).1⟩
 ·exact absurd h (by simp)
theorem Qfn (s:ByteArray) (w:World) (y:s.size<=1000000) (D:Env w) (h:Qbi s.data.toList=none):
 Calls Tryz.prog 88 #[.string s] w fun e w'=>e=.returned (.tuple #[.agg #[.int .i64 0,.int .i64 0,.string ⟨#[]⟩],.iface 37 (.int .i64 3)])/\Below w.heap.size w w':=by
 have:=Qdy s w y D;rw[h] at this;exact this
theorem Qda (s:ByteArray) (w:World) (v:V3) (y:s.size<=1000000) (D:Env w) (h:Qbi s.data.toList=some v):
 Calls Tryz.prog 88 #[.string s] w fun e w'=>e=.returned (.tuple #[.agg #[.int .i64 v.1,.int .i64 v.2.1,.string ⟨v.2.2.toArray⟩],.nilIface])/\Below w.heap.size w w':=by
 have:=Qdy s w y D;rw[h] at this;exact this
def Qqc (e:Ending) (w':World) (B:Nat):Option (List V3)->Prop
 |some vs=>∃v,e=.returned (.tuple #[v,.bool true])/\w'.ownsRow B 46 3 v vs.length (Qag (vs.map vl))/\∀x∈vs,x.2.2.length<=16
 |none=>e=.returned (.tuple #[.slice none 0 0,.bool false])
def Qkc (cs:List Cl) (l:List UInt8) (k:Nat) (rest:List UInt8) (more:Bool) (acc:List V3):Prop:=
 acc.length=k/\(∀v∈acc,v.2.2.length<=16)/\rest.length<=l.length/\QaU cs l false=(QaU (cs.drop k) rest more).map (acc++·)
theorem Qkd (cs:List Cl) (l:List UInt8):Qkc cs l 0 l false []:=⟨rfl,by simp,Nat.le_refl _,by simp⟩
theorem Qke {cs:List Cl} {l rest:List UInt8} {k:Nat} {more:Bool} {acc:List V3} {v:V3} (h:Qkc cs l k rest more acc) (F:k<cs.length) (D:Qbi (cutV false rest).1=some v) (H:v.1=cs[k].2):
 Qkc cs l (k+1) (cutV false rest).2.1 (cutV false rest).2.2 (acc++[v]):=by
 obtain⟨K,I,M,J⟩:=h;refine⟨by simp[K],?_,by have:=(Qe0 rest false).2;omega,?_⟩
 ·intro x y;rw[List.mem_append] at y;rcases y with y|y
  ·exact I x y
  ·simp at y;rw[y];exact(Qkb D).2
 ·rw[J,List.drop_eq_getElem_cons F];simp only[QaU,D,H,if_true,Option.map_map]
  congr 1
  funext x
  simp
theorem Qhu {cs:List Cl} {l rest:List UInt8} {k:Nat} {more:Bool} {acc:List V3} (h:Qkc cs l k rest more acc) (F:k<cs.length) (y:Qbi (cutV false rest).1=none\/∃v,Qbi (cutV false rest).1=some v/\v.1≠cs[k].2):QaU cs l false=none:=by
 rw[h.2.2.2,List.drop_eq_getElem_cons F];rcases y with y|⟨v,y,D⟩
 ·simp[QaU,y]
 ·simp[QaU,y,D]
theorem Qlu {cs:List Cl} {l rest:List UInt8} {k:Nat} {more:Bool} {acc:List V3} (h:Qkc cs l k rest more acc) (y:¬k<cs.length):QaU cs l false=if more then none else some acc:=by
 rw[h.2.2.2,List.drop_eq_nil_of_le (by omega)]
 cases more<;>simp[QaU]
theorem Qfo {w wr y:World} {o:Obj} (h:Below w.heap.size w wr) (D:Below (wr.alloc o).heap.size (wr.alloc o) y):Below w.heap.size w y:=
 (h.alloc h.size o).trans (D.mono (by have:=h.size;simp;omega))
theorem bel_then {w h D:World} (y:Below w.heap.size w h) (F:Below h.heap.size h D):Below w.heap.size w D:=y.trans (F.mono y.size)
theorem bel_box {w y:World} (h:Below w.heap.size w y) (o:Obj):Below w.heap.size w (y.alloc o):=h.alloc h.size o
theorem Tryz.infoVal:(Tryz.prog.info? 46).map (fun i=>(i.zero,i.size,i.bytes))=some (some (.agg #[.int .i64 0,.int .i64 0,.string ⟨#[]⟩]),3,32):=by kernel_rfl
theorem Qfp (s:ByteArray) (b o n c:Nat) (cs:List Cl) (w:World) (hs:s.size<=100000) (hE:Env w) (hn:cs.length=n) (h6:n<=100) (hb:b<w.heap.size) (hc:Qau w b o cs):
 Calls Tryz.prog 50 #[.string s,.slice (some ⟨b,o,none⟩) n c] w fun e w'=>Below w.heap.size w w'/\Qqc e w' w.heap.size (QaU cs s.data.toList false):=by
 obtain⟨i0,hi,am,ap,aq⟩:=info_parts Tryz.infoVal;have HN:=Hk hn;have HE:=Hk hE;clear hn hE;go_enter Tryz.func50,Tryz.ntmps50;go_wp2;go_loopw [6,7,8,17] (fun v r m i wr=>∃(k:Nat) (rest:List UInt8) (more:Bool) (acc:List V3),k<=n/\r=.string ⟨rest.toArray⟩/\m=.bool more/\i=.int .i64 k/\Qkc cs s.data.toList k rest more acc/\wr.ownsRow w.heap.size 46 3 v k (Qag (acc.map vl))/\Below w.heap.size w wr) (fun _ _ _ i _=>n-(intOf i).toNat)
 case atStart=>exact⟨0,s.data.toList,false,[],Nat.zero_le _,by simp,rfl,rfl,Qkd _ _,World.ownsRow_nil _ _ _ _,Below.refl _ _⟩
 case round=>
  obtain⟨k,rest,more,acc,hk,rfl,rfl,rfl,U,F,D⟩:=hrel;have I:=Hk U;have aG:rest.length<=100000:=by have:=U.2.2.1;simp at this;omega
  clear U
  by_cases hlt:k<n
  ·have K:k<cs.length:=by have:=HN.out;omega
   obtain⟨c1,c2⟩:=hc k K;have d1:=cK D hb c1;have d2:=cK D hb c2;clear c1 c2;have ac:=Hk (HE.out.below D);have aj:=Qhq ⟨rest.toArray⟩ (wr.alloc (.cells #[.string cs[k].1,.int .i64 cs[k].2] 64)) (by unfold maxLen;simp[ByteArray.size];omega);have ab:Hid (Calls Tryz.prog 87 #[.string ⟨rest.toArray⟩] (wr.alloc (.cells #[.string cs[k].1,.int .i64 cs[k].2] 64)) fun e w'=>e=.returned (.tuple #[.string ⟨(cutV false rest).1.toArray⟩,.string ⟨(cutV false rest).2.1.toArray⟩,.bool (cutV false rest).2.2])/\Below (wr.alloc (.cells #[.string cs[k].1,.int .i64 cs[k].2] 64)).heap.size (wr.alloc (.cells #[.string cs[k].1,.int .i64 cs[k].2] 64)) w'):=aj;clear aj;have aF:=(Qe0 rest false).1
   cases hp:Qbi (cutV false rest).1 with
   |none=>
    have J:=Hk (Qhu I.out K (Or.inl hp));have M:=Hk hp;clear hp;go_wp2_with (first|(go_at_call 87;refine ab.out.mono ?_;rintro e w2 ⟨rfl,h⟩;obtain⟨aa,ad⟩:=QaP h)|(go_at_call 88;refine(Qfn _ _ (by simp[ByteArray.size];omega) ((ac.out.below (Qaa _ _)).below h) M.out).mono ?_;rintro e N ⟨rfl,y⟩;obtain⟨ae,O⟩:=QaP y))
    go_ret2
    exact⟨bel_box (bel_then (Qfo D h) y) _,by rw[J.out];rfl⟩
   |some v=>
    have M:=Hk hp;clear hp
    cases ai:(v.1 != cs[k].2)
    ·have hkd':v.1=cs[k].2:=by simpa using ai
     have ax:=Hk (Qke I.out K M.out hkd');clear hkd';go_wp2_with (first|(go_at_call 87;refine ab.out.mono ?_;rintro e w2 ⟨rfl,h⟩;obtain⟨aa,ad⟩:=QaP h;have hz2':wr.heap.size<w2.heap.size:=by(have:=h.size;simp at this;omega))|(go_at_call 88;refine(Qda _ _ v (by simp[ByteArray.size];omega) ((ac.out.below (Qaa _ _)).below h) M.out).mono ?_;rintro e N ⟨rfl,y⟩;obtain⟨ae,O⟩:=QaP y;have hz3':wr.heap.size<N.heap.size:=by(have:=y.size;omega))|(at_builtin;refine wpList_append_own _ rfl _ _ 84 rfl w.heap.size 46 i0 (.agg #[.int .i64 0,.int .i64 0,.string ⟨#[]⟩]) 3 32 Tryz.underlying84 hi am ap aq rfl (by decide) _ _ _ rfl (((owns_below (owns_below (F.alloc _) h) y).alloc _).alloc _) ⟨N.heap.size+1,0,none⟩ 1 1 [.int .i64 v.1,.int .i64 v.2.1,.string ⟨v.2.2.toArray⟩] rfl rfl ?c1 ?c2 ?c3 ?c4 ?c5 ?_))
     case c1=>
      intro j u H
      match j,H with
      |0,H=>simp at H;subst H;simp[Addr.add]
      |1,H=>simp at H;subst H;simp[Addr.add]
      |2,H=>simp at H;subst H;simp[Addr.add]
     case c2=>intro u hu;simp at hu;rcases hu with rfl|rfl|rfl<;>rfl
     case c3=>unfold maxLen;omega
     case c4=>omega
     case c5=>have:=D.size;simp;omega
     ·intro v' w4 ag af _;have al:Below w.heap.size w w4:=((bel_box (bel_box (bel_then (Qfo D h) y) _) _)).grown af (by have:=D.size;simp;omega) (fun q hq=>(F.lt q hq).1);clear aa ad ae O;go_wp2;go_roundw
      case rel=>exact⟨k+1,(cutV false rest).2.1,(cutV false rest).2.2,acc++[v],by omega,rfl,rfl,by go_num,ax.out,by rw[List.map_append,Qc9];exact ag,al⟩
      case measure=>simp[intOf];omega
    ·have hkd':v.1≠cs[k].2:=by simpa using ai
     have J:=Hk (Qhu I.out K (Or.inr ⟨v,M.out,hkd'⟩));clear hkd';go_wp2_with (first|(go_at_call 87;refine ab.out.mono ?_;rintro e w2 ⟨rfl,h⟩;obtain⟨aa,ad⟩:=QaP h;have hz2':wr.heap.size<w2.heap.size:=by(have:=h.size;simp at this;omega))|(go_at_call 88;refine(Qda _ _ v (by simp[ByteArray.size];omega) ((ac.out.below (Qaa _ _)).below h) M.out).mono ?_;rintro e N ⟨rfl,y⟩;obtain⟨ae,O⟩:=QaP y;have hz3':wr.heap.size<N.heap.size:=by(have:=y.size;omega)))
     go_ret2
     exact⟨bel_box (bel_then (Qfo D h) y) _,by rw[J.out];rfl⟩
  ·have V:=Hk (Qlu I.out (by have:=HN.out;omega));have Z:acc.length=k:=I.out.1;have ak:=I.out.2.1;rw[<-Z] at F;have HR:=Hk F;have HS:=Hk ak;clear Z ak F
   cases more
   ·go_wp2
    go_ret2
    refine⟨D,?_⟩;rw[V.out];exact⟨_,rfl,HR.out,HS.out⟩
   ·go_wp2
    go_ret2
    refine⟨D,?_⟩;rw[V.out];rfl
theorem wrong_any (e p:Int) (w:World):
 Calls Tryz.prog 49 #[.int .i64 e,.int .i64 p] w fun en w'=>en=.returned (.tuple #[.agg #[.slice none 0 0,.slice none 0 0],.iface 100 (.pointer (some ⟨w.heap.size+1,0,none⟩))])/\w.heap.size+1<w'.heap.size/\w'.cell? ⟨w.heap.size+1,0,none⟩=some (.int .i64 e)/\w'.cell? ⟨w.heap.size+1,1,none⟩=some (.int .i64 p)/\Below w.heap.size w w':=by
 go_enter Tryz.func49,Tryz.ntmps49;go_wp2;refine bodyPost_ret (v:=.tuple #[.agg #[.slice none 0 0,.slice none 0 0],.iface 100 (.pointer (some ⟨w.heap.size+1,0,none⟩))]) (by simp[results,Tryz.results49,go_sem]) rfl ⟨rfl,by simp,by simp,by simp,?_⟩;exact bel_box (Qaa _ _) _
def QaL (cs:List Cl):Nat->List (List V3)->List UInt8->Bool->Except (Int×Nat) (List (List V3))
 |0,_,_,_=>.error (0,0)
 |f+1,acc,rest,ended=>
  if ended=true/\rest≠[] then
   match QaU cs (Lib.cut rest [10]).1 false with
   |none=>.error (3,1+acc.length)
   |some r=>if acc.length=60 then .error (4,1+acc.length) else QaL cs f (acc++[r]) (Lib.cut rest [10]).2.1 (Lib.cut rest [10]).2.2
  else if ended=true then .ok acc else .error (3,1+acc.length)
def Qjb (l:List UInt8):List Cl:=colsOf ⟨(Lib.cut l [10]).1.toArray⟩
def Qhv (l:List UInt8):Except (Int×Nat) (List Cl×List (List V3)):=
 if Qai (Qjb l)=true then
  match QaL (Qjb l) (l.length+1) [] (Lib.cut l [10]).2.1 (Lib.cut l [10]).2.2 with
  |.ok rs=>.ok (Qjb l,rs)
  |.error x=>.error x
 else .error (3,0)
def Qfq (w:World) (B:Nat) (us:List Value) (rs:List (List V3)):Prop:=
 us.length=rs.length/\∀(j:Nat) (h:j<us.length) (h':j<rs.length),w.ownsRow B 46 3 us[j] rs[j].length (Qag (rs[j].map vl))
def Qjc (e:Ending) (w':World):Except (Int×Nat) (List Cl×List (List V3))->Prop
 |.ok (cs,rs)=>∃vc vr,e=.returned (.tuple #[.agg #[vc,vr],.nilIface])/\Qax w' vc cs/\QaG w' vr (rs.map (·.map vl))
 |.error (x,p)=>∃N,e=.returned (.tuple #[.agg #[.slice none 0 0,.slice none 0 0],.iface 100 (.pointer (some ⟨N,0,none⟩))])/\N<w'.heap.size/\w'.cell? ⟨N,0,none⟩=some (.int .i64 x)/\w'.cell? ⟨N,1,none⟩=some (.int .i64 (p:Int))
theorem Qe1 (w:World) (R o N j:Nat) (v:Value) (h:N≠R):(w.setCell ⟨R,o,none⟩ v).cell? ⟨N,j,none⟩=w.cell? ⟨N,j,none⟩:=World.cell?_of_block (Below.heap_setCell _ _ _ _ h)
theorem Qfr {h:World} {R N:Nat} {x:Int} {p:Nat} {u v:Value} (F:N<h.heap.size) (H:R<N) (D:h.cell? ⟨N,0,none⟩=some (.int .i64 x)) (y:h.cell? ⟨N,1,none⟩=some (.int .i64 (p:Int))):
 Qjc (.returned (.tuple #[.agg #[.slice none 0 0,.slice none 0 0],.iface 100 (.pointer (some ⟨N,0,none⟩))])) ((h.setCell ⟨R,0,none⟩ u).setCell ⟨R,1,none⟩ v) (.error (x,p)):=by
 refine⟨N,rfl,by simpa [World.setCell] using F,?_,?_⟩
 ·rw[Qe1 _ _ _ _ _ _ (by omega),Qe1 _ _ _ _ _ _ (by omega)];exact D
 ·rw[Qe1 _ _ _ _ _ _ (by omega),Qe1 _ _ _ _ _ _ (by omega)];exact y
def Qgl (wr W:World) (tb:Nat) (vc vr:Value) (us:List Value) (acc:List (List V3)):Prop:=
 tb<wr.heap.size/\wr.cell? ⟨tb,0,none⟩=some vc/\wr.cell? ⟨tb,1,none⟩=some vr/\wr.frozen? ⟨tb,1,none⟩=false/\wr.ownsRow (tb+1) 84 1 vr acc.length us/\Qfq wr (tb+1) us acc/\(∀r∈acc,∀x∈r,x.2.2.length<=16)/\Below tb W wr
theorem Qb2 {w:World} {B B':Nat} {e F:TypeId} {z K:Nat} {u v:Value} {n m:Nat} {xs H:List Value} (he:e≠F) (h:w.ownsRow B e z u n xs) (k:w.ownsRow B' F K v m H):u.ownBlock=none\/u.ownBlock≠v.ownBlock:=by
 obtain⟨-,⟨rfl,-⟩|⟨g,N,M,rfl,-,y,-⟩⟩:=h
 ·exact Or.inl rfl
 ·obtain⟨-,⟨rfl,-⟩|⟨O,I,J,rfl,-,D,-⟩⟩:=k
  ·exact Or.inr (by simp[Value.ownBlock])
  ·refine Or.inr (fun e1=>?_);simp only[Value.ownBlock,Option.some.injEq] at e1;rw[e1,D] at y;simp only[Option.some.injEq,Obj.cells.injEq] at y;exact he y.2.1.symm
theorem Qjd {wr W M y H:World} {tb:Nat} {vc N u K:Value} {us:List Value} {acc:List (List V3)} {row:List V3} (h:Qgl wr W tb vc N us acc) (U:Below wr.heap.size wr M) (ah:Below M.heap.size M y)
 (hu:y.ownsRow M.heap.size 46 3 u row.length (Qag (row.map vl))) (hr:∀x∈row,x.2.2.length<=16) (o:Obj) (Z:H.ownsRow (tb+1) 84 1 K (acc.length+1) (us++[u])) (I:(y.alloc o).grownBy H N.ownBlock):
 Qgl (H.setCell ⟨tb,1,none⟩ K) W tb vc K (us++[u]) (acc++[row]):=by
 obtain⟨h1,h2,h3,h4,h5,J,h7,h8⟩:=h;have D:Below wr.heap.size wr y:=bel_then U ah;have O:some tb≠N.ownBlock:=fun e=>by have:=(h5.lt tb e.symm).1;omega
 have s4:=D.size;have s3:=U.size;have s5:=I.size;simp only[show(y.alloc o).heap.size=y.heap.size+1 by simp] at s5;have tc:∀j v,wr.cell? ⟨tb,j,none⟩=some v->H.cell? ⟨tb,j,none⟩=some v:=fun j v hv=>
  I.cell (a:=⟨tb,j,none⟩) (by rw[World.cell?_alloc_past _ _ _ (by show tb<_;omega)];exact cK D h1 hv) O
 have tf:H.frozen? ⟨tb,1,none⟩=false:=by
  rw[World.frozen?_of_block (w:=y.alloc o) (w':=H) (a:=⟨tb,1,none⟩) (I.block tb (by simp;omega) O)];rw[World.frozen?_of_block (w:=y) (w':=y.alloc o) (a:=⟨tb,1,none⟩) (Below.heap_alloc _ _ _ (by show tb<_;omega))];exact(D.frozen (p:=⟨tb,1,none⟩) h1).trans h4
 refine⟨by simp[World.setCell];omega,?_,?_,?_,?_,?_,?_,?_⟩
 ·have:=World.cell?_setCell_other (w:=H) (a:=⟨tb,1,none⟩) (b:=⟨tb,0,none⟩) (v:=K) (by simp);rw[this];exact tc 0 _ h2
 ·exact World.cell?_setCell_same _ _ _ (tc 1 _ h3)
 ·rw[World.frozen?_setCell];exact tf
 ·rw[List.length_append];exact ownsRow_setCell_below Z (by show tb<_;omega) _
 ·refine⟨by simp[J.1],fun j hj hj'=>ownsRow_setCell_below ?_ (by show tb<_;omega) _⟩;have h5':y.ownsRow (tb+1) 84 1 N acc.length us:=owns_below h5 D
  by_cases hlt:j<us.length
  ·rw[List.getElem_append_left hlt,List.getElem_append_left (by rw[<-J.1];exact hlt)];have V:=owns_below (J.2 j hlt (by rw[<-J.1];exact hlt)) D;exact(V.alloc o).kept I (Qb2 (by decide) V h5')
  ·have af:j=us.length:=by rw[List.length_append] at hj;simp at hj;omega
   subst af;have e1:(us++[u])[us.length]=u:=by simp
   have e2:(acc++[row])[us.length]'(by rw[J.1];simp)=row:=by simp[J.1]
   rw[e1,e2];exact own_mono (by omega) ((hu.alloc o).kept I (Qb2 (by decide) hu h5'))
 ·intro r F x hx;rw[List.mem_append] at F;rcases F with F|F
  ·exact h7 r F x hx
  ·simp at F;rw[F] at hx;exact hr x hx
 ·exact(((h8.trans (D.mono (Nat.le_of_lt h1))).alloc (by omega) o).grown I (by simp;omega) (fun q hq=>by have:=(h5.lt q hq).1;omega)).setCell (Nat.le_refl _) _
def Qje:Value->Nat|.string s=>s.size|_=>0
theorem Qfs {l h r:List UInt8} {y:Bool} (D:Lib.cut l [10]=(h,r,y)):Qhv l=if Qai (colsOf ⟨h.toArray⟩)=true then
 match QaL (colsOf ⟨h.toArray⟩) (l.length+1) [] r y with
 |.ok rs=>.ok (colsOf ⟨h.toArray⟩,rs)
 |.error x=>.error x
 else .error (3,0):=by
 unfold Qhv Qjb;rw[D]
theorem Tryz.infoRow:(Tryz.prog.info? 84).map (fun i=>(i.zero,i.size,i.bytes))=some (some (.slice none 0 0),1,24):=by kernel_rfl
theorem QiA {wr:World} {tb:Nat} {H:Value} {us:List Value} {acc:List (List V3)} (J:wr.ownsRow (tb+1) 84 1 H acc.length us) (F:Qfq wr (tb+1) us acc) (O:∀r∈acc,∀x∈r,x.2.2.length<=16):QaG wr H (acc.map (·.map vl)):=by
 have K:=J;obtain⟨V,⟨rfl,D⟩|⟨g,I,U,rfl,hg,hh,D,Z,_,_⟩⟩:=J
 ·exact⟨none,0,by rw[List.length_map,D],Or.inl (by rw[List.length_eq_zero_iff.1 D];rfl)⟩
 ·refine⟨some ⟨g,0,none⟩,I,by rw[List.length_map],Or.inr ⟨g,0,rfl,(K.lt g rfl).2,fun j hj=>?_⟩⟩;rw[List.length_map] at hj;have h:j<us.length:=by rw[F.1];exact hj
  refine⟨us[j],?_,?_⟩
  ·have e:=K.cellAt j (by omega);rw[show 0+j=j by omega,e,List.getElem?_eq_getElem h]
  ·rw[List.getElem_map];refine QbB (base:=tb+1) (by rw[List.length_map];exact F.2 j h hj) ?_;intro x M;rw[List.mem_map] at M;obtain⟨y,N,rfl⟩:=M;have:=O _ (List.getElem_mem hj) y N
   show y.2.2.toArray.size<=maxLen
   unfold maxLen;simp;omega
theorem Qe2 {wr:World} {B R o:Nat} {v:Value} {us:List Value} {acc:List (List V3)} (h:Qfq wr B us acc) (y:R<B):Qfq (wr.setCell ⟨R,o,none⟩ v) B us acc:=
 ⟨h.1,fun j hj hj'=>ownsRow_setCell_below (h.2 j hj hj') y _⟩
theorem Qgm {W wr:World} {B tb:Nat} {e:TypeId} {z:Nat} {v:Value} {n:Nat} {xs:List Value} (h:W.ownsRow B e z v n xs) (K:Below tb W wr) (D:∀k,v.ownBlock=some k->k<tb):wr.ownsRow B e z v n xs:=by
 obtain⟨F,I|⟨g,H,y,rfl,M,J,r⟩⟩:=h
 ·exact⟨F,Or.inl I⟩
 ·exact⟨F,Or.inr ⟨g,H,y,rfl,M,by rw[K.block g (D g rfl)];exact J,r⟩⟩
end Go.Proofs.YtjlgejennghhlaaGreatDoor
namespace Go.Proofs.YtjlgejennghhlaaGreatDoor
namespace Stb
open Go.Shelf Go.RowKit Go.Lib Go.Sort
variable {α:Type} [Inhabited α]
theorem sym_left (enc:α->Value) (F:α->α->Int) (g:Nat) (cb:Array Value) (blk D a2 a m b N:Nat) (x:α) (P R' S:List α) (d0:Array α) (K w:World) (eg:∀args w,(callFunc g args).run Tryz.prog w=.ok (.enter g args) w) (ao:CmpLays1 Tryz.prog g cb enc F blk D d0.size K) (ho:Ord (ltOf F)) (R:Row1 enc K blk D d0) (hN:d0.size=N) (bu:N<4611686018427387904) (ab:(P++([x]++(R'++S))).length=N) (ha:P.length=a) (hm:m=a+1) (hb:b=m+R'.length) (sR:Sorted (ltOf F) R')
 (S0:SW enc K blk D (P++([x]++(R'++S))).toArray w):
 Calls Tryz.prog 202 #[.slice (some ⟨blk,D,none⟩) N a2,.int .i64 a,.int .i64 m,.int .i64 b,.func (.func g) #[] cb] w fun e w'=>e=.returned (.tuple #[])/\∃M,Sorted (ltOf F) M/\Same (ltOf F) ([x]++R') M/\SW enc K blk D (P++(M++S)).toArray w':=by
 have a6:Tryz.prog.follows .mixedOrders=true:=by kernel_rfl
 have aO:=R.hO.cells;simp only[Value.cells] at aO;have bz:=R.hO.store Tryz.prog;have HC:Aside _:=ao;have aC:Aside (Ord (ltOf F)):=ho;obtain⟨l,hl⟩:∃q,q=P++([x]++(R'++S)):=⟨_,rfl⟩;have bC:l.toArray.size=N:=by rw[hl];simpa using ab
 have aR:l.toArray[a]! =x:=by rw[hl];exact arr_at P (R'++S) x a ha.symm
 have HG:Aside (∀k,k<N->l[k]? =some (l.toArray[k]!)):=fun k hk=>arr_get l k (by simpa using (show k<l.toArray.size by omega))
 have bB:b<=N:=by
  have:P.length+(1+(R'.length+S.length))=N:=by simpa [Nat.add_comm,Nat.add_left_comm,Nat.add_assoc] using ab
  omega
 have a5:m<=b:=by omega
 have bw:a<m:=by omega
 have e1:(m:Int)-(a:Int)=1:=by omega
 have HS:Aside (SW enc K blk D l.toArray w/\(m=m\/∀y,l[m-1]? =some y->ltOf F y x=true)/\(b=b\/∀y,l[b]? =some y->ltOf F y x=false)):=⟨by rw[hl];exact S0,Or.inl rfl,Or.inl rfl⟩;have HL:Aside (l=P++([x]++(R'++S))/\P.length=a/\m=a+1/\b=m+R'.length/\(P++([x]++(R'++S))).length=N/\Sorted (ltOf F) R'):=⟨hl,ha,hm,hb,ab,sR⟩;clear S0 ao ho hl ha hm hb ab sR;go_enter Tryz.func202,Tryz.ntmps202;go_wp2
 go_loopg [10,11] (b-m) (fun g1 vi vj wr=>∃i j:Nat,vi=.int .i64 i/\vj=.int .i64 j/\m<=i/\i<=j/\j<=b/\j-i<=g1/\Aside (SW enc K blk D l.toArray wr/\(i=m\/∀y,l[i-1]? =some y->ltOf F y x=true)/\(j=b\/∀y,l[j]? =some y->ltOf F y x=false)))
 case atStart=>exact⟨m,b,rfl,rfl,Nat.le_refl _,a5,Nat.le_refl _,by omega,⟨HS.out.1,Or.inl rfl,Or.inl rfl⟩⟩
 case round=>
  clear HS;obtain⟨i,j,rfl,rfl,aD,bx,aB,hg,H⟩:=hrel
  by_cases hlt:i<j
  ·have aL:(i:Int)<(j:Int):=by omega
   obtain⟨h,hh⟩:∃q,q=(i+j)/2:=⟨_,rfl⟩;have a1:i<=h:=by omega
   have bE:h<j:=by omega
   have eh:((i:Int)+(j:Int))/2=(h:Int):=by omega
   obtain⟨y,gx⟩:∃y,l.toArray[h]! =y:=⟨_,rfl⟩;have GH:Aside (l[h]? =some y):=by have:=HG.out h (by omega);rw[gx] at this;exact this
   have I:Aside (SW enc K blk D l.toArray wr):=H.out.1;have HI:Aside ((i=m\/∀y,l[i-1]? =some y->ltOf F y x=true)/\(j=b\/∀y,l[j]? =some y->ltOf F y x=false)):=H.out.2;have gy:=aR;clear H hh;obtain⟨iN,O⟩:∃q,q=h:=⟨_,rfl⟩;obtain⟨jN,U⟩:∃q,q=a:=⟨_,rfl⟩;have ea:((h:Int)).toNat=iN:=by omega
   have pa:(0:Int)<=(h:Int):=by omega
   have ba:(h:Int)<(N:Int):=by omega
   have ra:IntKind.i64.wrap ((h:Int))=(h:Int):=by rw[IntKind.wrap_i64];omega
   have ec:((a:Int)).toNat=jN:=by omega
   have pc:(0:Int)<=(a:Int):=by omega
   have bc:(a:Int)<(N:Int):=by omega
   have rc:IntKind.i64.wrap ((a:Int))=(a:Int):=by rw[IntKind.wrap_i64];omega
   have la:=I.out.cl R (by omega) h (by omega);have lb:=I.out.cl R (by omega) a (by omega);rw[gx,<-O] at la;rw[gy,<-U] at lb;have hc:=I.out.cmp HC.out (by omega) y x;clear O U
   cases hlv:ltOf F y x with
   |true=>
    have hv:F y x<0:=of_decide_eq_true hlv;have hd:decide (F y x<0)=true:=decide_eq_true hv;have ar:Aside (ltOf F y x=true):=hlv;clear hlv;go_wp2_with fail
    try simp only[eh]
    go_quiet_grown (first|(go_at_fn g;refine Calls.grown_of (hc _ _)))
    have S2:Aside (SW enc K blk D l.toArray (grow (wr.drewN nq) osq)):=I.out.grown nq osq;clear la lb hc I;generalize grow (wr.drewN nq) osq=w2 at S2⊢;clear nq osq;clear ea ec;go_wp2
    go_roundg (j-(h+1))
    case measure=>omega
    case rel=>exact⟨h+1,j,by first|go_num|(congr 1;omega),rfl,by omega,by omega,aB,Nat.le_refl _,⟨S2.out,Or.inr (fun z hz=>by rw[Nat.add_sub_cancel,GH.out] at hz;cases hz;exact ar.out),HI.out.2⟩⟩
   |false=>
    have hv:¬F y x<0:=of_decide_eq_false hlv;have hd:decide (F y x<0)=false:=decide_eq_false hv;have ar:Aside (ltOf F y x=false):=hlv;clear hlv;go_wp2_with fail
    try simp only[eh]
    go_quiet_grown (first|(go_at_fn g;refine Calls.grown_of (hc _ _)))
    have S2:Aside (SW enc K blk D l.toArray (grow (wr.drewN nq) osq)):=I.out.grown nq osq;clear la lb hc I;generalize grow (wr.drewN nq) osq=w2 at S2⊢;clear nq osq;clear ea ec;go_wp2
    go_roundg (h-i)
    case measure=>omega
    case rel=>exact⟨i,h,rfl,by first|rfl|go_num|(congr 1;omega),aD,a1,by omega,Nat.le_refl _,⟨S2.out,HI.out.1,Or.inr (fun z hz=>by rw[GH.out] at hz;cases hz;exact ar.out)⟩⟩
  ·have hij':i=j:=by omega
   subst hij';have aL:¬(i:Int)<(i:Int):=by omega
   obtain⟨Z,V,HR⟩:∃Z V,Aside (R'=Z++V/\Z.length=i-m/\(∀y∈Z,ltOf F y x=true)/\∀y∈V,ltOf F y x=false):=by
    obtain⟨k1,k2,k3,k4,k5,k6⟩:=HL.out;obtain⟨q1,q2,q3⟩:=H.out;rw[k1] at q2 q3;exact find_first aC.out k2 k3 (by omega) aD aB k6 q2 q3
   have az:Aside (Z=[]++Z/\([]:List α).length=a-a/\SW enc K blk D (P++([]++x::(Z++(V++S)))).toArray wr):=⟨rfl,by simp,by have:=H.out.1;rw[HL.out.1,HR.out.1] at this;simpa using this⟩;clear H;go_wp2
   go_loopg [13] (i-a) (fun g2 vk wr=>∃(k:Nat) (J R4:List α),vk=.int .i64 k/\a<=k/\k+1<=i/\i-k<=g2/\Aside (Z=J++R4/\J.length=k-a/\SW enc K blk D (P++(J++x::(R4++(V++S)))).toArray wr))
   case atStart=>exact⟨a,[],Z,rfl,Nat.le_refl _,by omega,by omega,az⟩
   case round=>
    clear az;obtain⟨k,J,R4,rfl,bD,bv,bF,HJ⟩:=hrel
    by_cases hlk:k+1<i
    ·have aF:(k:Int)<(i:Int)-1:=by omega
     obtain⟨y,R5,HY⟩:∃y R5,Aside (R4=y::R5):=by
      obtain⟨q1,q2,q3⟩:=HJ.out;have:=HR.out.2.1;rw[q1,List.length_append] at this;have hm:=HL.out.2.2.1
      cases R4 with
      |nil=>simp at this;omega
      |cons y l=>exact⟨y,l,rfl⟩
     obtain⟨dj,aa⟩:∃q,q=(P++(J++x::(R4++(V++S)))).toArray:=⟨_,rfl⟩;have af:k=(P++J).length:=by rw[List.length_append,HL.out.2.1,HJ.out.2.1];omega
     have bA:dj.size=N:=by
      have:=HL.out.2.2.2.2.1;rw[HR.out.1,HJ.out.1] at this;rw[aa,<-this];simp;omega
     have gx:dj[k]! =x:=by
      rw[aa];have:=arr_at (P++J) (R4++(V++S)) x k af;simpa using this
     have gy:dj[k+1]! =y:=by
      rw[aa,HY.out];have:=arr_at (P++(J++[x])) (R5++(V++S)) y (k+1) (by rw[af];simp;omega);simpa using this
     have gs:swp dj k (k+1)=(P++((J++[y])++x::(R5++(V++S)))).toArray:=by
      rw[aa,HY.out];have:=swp_list (P++J) [] (R5++(V++S)) x y k (k+1) af (by rw[af];simp);simpa using this
     have I:Aside (SW enc K blk D dj wr):=by rw[aa];exact HJ.out.2.2
     have aA:Aside (Z=J++R4/\J.length=k-a):=⟨HJ.out.1,HJ.out.2.1⟩;clear aa HJ af;obtain⟨iN,O⟩:∃q,q=k:=⟨_,rfl⟩;obtain⟨jN,U⟩:∃q,q=(k+1):=⟨_,rfl⟩;have ea:((k:Int)).toNat=iN:=by omega
     have pa:(0:Int)<=(k:Int):=by omega
     have ba:(k:Int)<(N:Int):=by omega
     have ra:IntKind.i64.wrap ((k:Int))=(k:Int):=by rw[IntKind.wrap_i64];omega
     have ec:(((k:Int)+1)).toNat=jN:=by omega
     have pc:(0:Int)<=((k:Int)+1):=by omega
     have bc:((k:Int)+1)<(N:Int):=by omega
     have rc:IntKind.i64.wrap (((k:Int)+1))=((k:Int)+1):=by rw[IntKind.wrap_i64];omega
     have S3:Aside (SW enc K blk D (swp dj k (k+1)) ((wr.setCell ⟨blk,D+iN,none⟩ (enc y)).setCell ⟨blk,D+jN,none⟩ (enc x)).drew):=by
      have:=I.out.swapped R k (k+1) (by omega) (by omega);rw[gx,gy] at this;rw[O,U];exact this
     have ca:wr.cell? ⟨blk,D+iN,none⟩=some (enc x):=by rw[O];have:=I.out.c1 R (by omega) k (by omega);rw[gx] at this;exact this
     have cb':wr.cell? ⟨blk,D+jN,none⟩=some (enc y):=by rw[U];have:=I.out.c1 R (by omega) (k+1) (by omega);rw[gy] at this;exact this
     have fa:wr.frozen? ⟨blk,D+iN,none⟩=false:=by rw[O];exact I.out.f1 R (by omega) k (by omega)
     have fb:wr.frozen? ⟨blk,D+jN,none⟩=false:=by rw[U];exact I.out.f1 R (by omega) (k+1) (by omega)
     obtain⟨u,cc⟩:∃u,(wr.setCell ⟨blk,D+iN,none⟩ (enc y)).cell? ⟨blk,D+jN,none⟩=some u:=by rw[O,U];exact I.out.c2 R (by omega) k (k+1) (by omega) (by omega) (enc y)
     have GS:Aside (swp dj k (k+1)=(P++((J++[y])++x::(R5++(V++S)))).toArray):=gs;clear I gx gy gs O U;go_wp2_with fail
     go_big_region_o
     clear ca cb' cc fa fb;generalize ((wr.setCell ⟨blk,D+iN,none⟩ (enc y)).setCell ⟨blk,D+jN,none⟩ (enc x)).drew=w3 at S3⊢;clear ea ec;go_wp2
     go_roundg (i-(k+1))
     case measure=>omega
     case rel=>exact⟨k+1,J++[y],R5,by go_num,by omega,by omega,by omega,by rw[aA.out.1,HY.out];simp,by rw[List.length_append,aA.out.2];simp;omega,by have:=S3.out;rw[GS.out] at this;exact this⟩
    ·have aF:¬(k:Int)<(i:Int)-1:=by omega
     go_wp2
     try simp only[Exit.inBlock,Exit.then]
     refine bodyPost_ret (results_none rfl _ _ _) rfl ?_;obtain⟨q1,q2,q3⟩:=HJ.out;obtain⟨k1,k2,k3,k4,k5,k6⟩:=HL.out;obtain⟨r1,r2,r3,r4⟩:=HR.out;have h4:R4=[]:=List.length_eq_zero_iff.1 (by rw[q1,List.length_append] at r2;omega);rw[h4,List.append_nil] at q1;rw[h4,<-q1] at q3;obtain⟨p1,p2⟩:=put_first aC.out (r1▸k6) r3 r4;exact⟨rfl,Z++x::V,p1,by rw[r1];simpa using p2,by simpa using q3⟩
end Stb
end Go.Proofs.YtjlgejennghhlaaGreatDoor
namespace Go.Proofs.YtjlgejennghhlaaGreatDoor
namespace Stb
open Go.Shelf Go.RowKit Go.Lib Go.Sort
variable {α:Type} [Inhabited α]
theorem sym_right (enc:α->Value) (I:α->α->Int) (g:Nat) (cb:Array Value) (blk D a4 a m b N:Nat) (x:α) (P L S:List α) (d0:Array α) (O w:World) (eg:∀args w,(callFunc g args).run Tryz.prog w=.ok (.enter g args) w) (au:CmpLays1 Tryz.prog g cb enc I blk D d0.size O) (ho:Ord (ltOf I)) (R:Row1 enc O blk D d0) (hN:d0.size=N) (bv:N<4611686018427387904) (ae:(P++(L++([x]++S))).length=N) (ha:P.length=a) (hm:m=a+L.length) (hb:b=m+1) (h2:2<=L.length) (sL:Sorted (ltOf I) L)
 (S0:SW enc O blk D (P++(L++([x]++S))).toArray w):
 Calls Tryz.prog 202 #[.slice (some ⟨blk,D,none⟩) N a4,.int .i64 a,.int .i64 m,.int .i64 b,.func (.func g) #[] cb] w fun e w'=>e=.returned (.tuple #[])/\∃M,Sorted (ltOf I) M/\Same (ltOf I) (L++[x]) M/\SW enc O blk D (P++(M++S)).toArray w':=by
 have a6:Tryz.prog.follows .mixedOrders=true:=by kernel_rfl
 have aO:=R.hO.cells;simp only[Value.cells] at aO;have bA:=R.hO.store Tryz.prog;have HC:Aside _:=au;have aF:Aside (Ord (ltOf I)):=ho;obtain⟨l,hl⟩:∃q,q=P++(L++([x]++S)):=⟨_,rfl⟩;have bD:l.toArray.size=N:=by rw[hl];simpa using ae
 have aR:l.toArray[m]! =x:=by rw[hl];have:=arr_at (P++L) S x m (by rw[List.length_append];omega);simpa using this
 have HG:Aside (∀k,k<N->l[k]? =some (l.toArray[k]!)):=fun k hk=>arr_get l k (by simpa using (show k<l.toArray.size by omega))
 have bC:b<=N:=by
  have:P.length+(L.length+(1+S.length))=N:=by simpa [Nat.add_comm,Nat.add_left_comm,Nat.add_assoc] using ae
  omega
 have bx:a<m:=by omega
 have bI:m<b:=by omega
 have e1:¬((m:Int)-(a:Int)=1):=by omega
 have e2:(b:Int)-(m:Int)=1:=by omega
 have HS:Aside (SW enc O blk D l.toArray w/\(a=a\/∀y,l[a-1]? =some y->ltOf I x y=false)/\(m=m\/∀y,l[m]? =some y->ltOf I x y=true)):=⟨by rw[hl];exact S0,Or.inl rfl,Or.inl rfl⟩;have HL:Aside (l=P++(L++([x]++S))/\P.length=a/\m=a+L.length/\(P++(L++([x]++S))).length=N/\Sorted (ltOf I) L):=⟨hl,ha,hm,ae,sL⟩;clear S0 au ho hl ha hm hb ae sL h2;go_enter Tryz.func202,Tryz.ntmps202;go_wp2
 go_loopg [14,15] (m-a) (fun g1 vi vj wr=>∃i j:Nat,vi=.int .i64 i/\vj=.int .i64 j/\a<=i/\i<=j/\j<=m/\j-i<=g1/\Aside (SW enc O blk D l.toArray wr/\(i=a\/∀y,l[i-1]? =some y->ltOf I x y=false)/\(j=m\/∀y,l[j]? =some y->ltOf I x y=true)))
 case atStart=>exact⟨a,m,rfl,rfl,Nat.le_refl _,by omega,Nat.le_refl _,by omega,⟨HS.out.1,Or.inl rfl,Or.inl rfl⟩⟩
 case round=>
  clear HS;obtain⟨i,j,rfl,rfl,aG,bz,av,hg,H⟩:=hrel
  by_cases hlt:i<j
  ·have aM:(i:Int)<(j:Int):=by omega
   obtain⟨h,hh⟩:∃q,q=(i+j)/2:=⟨_,rfl⟩;have a3:i<=h:=by omega
   have bF:h<j:=by omega
   have eh:((i:Int)+(j:Int))/2=(h:Int):=by omega
   obtain⟨y,gy⟩:∃y,l.toArray[h]! =y:=⟨_,rfl⟩;have GH:Aside (l[h]? =some y):=by have:=HG.out h (by omega);rw[gy] at this;exact this
   have J:Aside (SW enc O blk D l.toArray wr):=H.out.1;have HI:Aside ((i=a\/∀y,l[i-1]? =some y->ltOf I x y=false)/\(j=m\/∀y,l[j]? =some y->ltOf I x y=true)):=H.out.2;have gx:=aR;clear H hh;obtain⟨iN,U⟩:∃q,q=m:=⟨_,rfl⟩;obtain⟨jN,V⟩:∃q,q=h:=⟨_,rfl⟩;have ea:((m:Int)).toNat=iN:=by omega
   have pa:(0:Int)<=(m:Int):=by omega
   have ba:(m:Int)<(N:Int):=by omega
   have ra:IntKind.i64.wrap ((m:Int))=(m:Int):=by rw[IntKind.wrap_i64];omega
   have ec:((h:Int)).toNat=jN:=by omega
   have pc:(0:Int)<=(h:Int):=by omega
   have bc:(h:Int)<(N:Int):=by omega
   have rc:IntKind.i64.wrap ((h:Int))=(h:Int):=by rw[IntKind.wrap_i64];omega
   have la:=J.out.cl R (by omega) m (by omega);have lb:=J.out.cl R (by omega) h (by omega);rw[gx,<-U] at la;rw[gy,<-V] at lb;have hc:=J.out.cmp HC.out (by omega) x y;clear U V
   cases hlv:ltOf I x y with
   |true=>
    have hv:I x y<0:=of_decide_eq_true hlv;have hd:decide (I x y<0)=true:=decide_eq_true hv;have ax:Aside (ltOf I x y=true):=hlv;clear hlv;go_wp2_with fail
    try simp only[eh]
    go_quiet_grown (first|(go_at_fn g;refine Calls.grown_of (hc _ _)))
    have S2:Aside (SW enc O blk D l.toArray (grow (wr.drewN nq) osq)):=J.out.grown nq osq;clear la lb hc J;generalize grow (wr.drewN nq) osq=w2 at S2⊢;clear nq osq;clear ea ec;go_wp2
    go_roundg (h-i)
    case measure=>omega
    case rel=>exact⟨i,h,rfl,by first|rfl|go_num|(congr 1;omega),aG,a3,by omega,Nat.le_refl _,⟨S2.out,HI.out.1,Or.inr (fun z hz=>by rw[GH.out] at hz;cases hz;exact ax.out)⟩⟩
   |false=>
    have hv:¬I x y<0:=of_decide_eq_false hlv;have hd:decide (I x y<0)=false:=decide_eq_false hv;have ax:Aside (ltOf I x y=false):=hlv;clear hlv;go_wp2_with fail
    try simp only[eh]
    go_quiet_grown (first|(go_at_fn g;refine Calls.grown_of (hc _ _)))
    have S2:Aside (SW enc O blk D l.toArray (grow (wr.drewN nq) osq)):=J.out.grown nq osq;clear la lb hc J;generalize grow (wr.drewN nq) osq=w2 at S2⊢;clear nq osq;clear ea ec;go_wp2
    go_roundg (j-(h+1))
    case measure=>omega
    case rel=>exact⟨h+1,j,by first|go_num|(congr 1;omega),rfl,by omega,by omega,av,Nat.le_refl _,⟨S2.out,Or.inr (fun z hz=>by rw[Nat.add_sub_cancel,GH.out] at hz;cases hz;exact ax.out),HI.out.2⟩⟩
  ·have hij':i=j:=by omega
   subst hij';have aM:¬(i:Int)<(i:Int):=by omega
   obtain⟨K,L2,HR⟩:∃K L2,Aside (L=K++L2/\K.length=i-a/\(∀y∈K,ltOf I x y=false)/\∀y∈L2,ltOf I x y=true):=by
    obtain⟨k1,k2,k3,k4,k5⟩:=HL.out;obtain⟨q1,q2,q3⟩:=H.out;rw[k1] at q2 q3;exact find_last aF.out k2 (by omega) aG av k5 q2 q3
   have aE:Aside (L2=L2++[]/\L2.length=m-i/\SW enc O blk D (P++(K++(L2++x::([]++S)))).toArray wr):=⟨by simp,by have:=HL.out.2.2.1;rw[HR.out.1,List.length_append,HR.out.2.1] at this;omega,by have:=H.out.1;rw[HL.out.1,HR.out.1] at this;simpa using this⟩;clear H;go_wp2
   go_loopg [17] (m-i) (fun g2 vk wr=>∃(k:Nat) (Z L4:List α),vk=.int .i64 k/\i<=k/\k<=m/\k-i<=g2/\Aside (L2=Z++L4/\Z.length=k-i/\SW enc O blk D (P++(K++(Z++x::(L4++S)))).toArray wr))
   case atStart=>exact⟨m,L2,[],rfl,av,Nat.le_refl _,Nat.le_refl _,aE⟩
   case round=>
    clear aE;obtain⟨k,Z,L4,rfl,bE,bw,bH,HJ⟩:=hrel
    by_cases hlk:i<k
    ·have aI:(i:Int)<(k:Int):=by omega
     obtain⟨F,aD⟩:∃q,q+1=k:=⟨k-1,by omega⟩;have bG:(k:Int)=(F:Int)+1:=by omega
     have hlkz':(i:Int)<(F:Int)+1:=by omega
     obtain⟨L5,y,HY⟩:∃L5 y,Aside (Z=L5++[y]/\L5.length=F-i):=by
      obtain⟨q1,q2,q3⟩:=HJ.out;have aC:Z≠[]:=by intro e;rw[e] at q2;simp at q2;omega
      exact⟨Z.dropLast,Z.getLast aC,(List.dropLast_concat_getLast aC).symm,by rw[List.length_dropLast];omega⟩
     obtain⟨dj,ad⟩:∃q,q=(P++(K++(Z++x::(L4++S)))).toArray:=⟨_,rfl⟩;have ah:F=(P++(K++L5)).length:=by rw[List.length_append,List.length_append,HL.out.2.1,HR.out.2.1,HY.out.2];omega
     have bB:dj.size=N:=by
      have:=HL.out.2.2.2.1;rw[HR.out.1,HJ.out.1] at this;rw[ad,<-this];simp;omega
     have gx:dj[k]! =x:=by
      rw[ad,HY.out.1];have:=arr_at (P++(K++(L5++[y]))) (L4++S) x k (by rw[<-aD,ah];simp;omega);simpa using this
     have gy:dj[F]! =y:=by
      rw[ad,HY.out.1];have:=arr_at (P++(K++L5)) (x::(L4++S)) y F ah;simpa using this
     have gs:swp dj k F=(P++(K++(L5++x::((y::L4)++S)))).toArray:=by
      rw[ad,HY.out.1];have:=swp_list' (P++(K++L5)) [] (L4++S) y x F k ah (by rw[<-aD,ah];simp);simpa using this
     have J:Aside (SW enc O blk D dj wr):=by rw[ad];exact HJ.out.2.2
     have aU:Aside (L2=Z++L4):=HJ.out.1;clear ad HJ ah;obtain⟨iN,U⟩:∃q,q=k:=⟨_,rfl⟩;obtain⟨jN,V⟩:∃q,q=F:=⟨_,rfl⟩;have ea:(((F:Int)+1)).toNat=iN:=by omega
     have pa:(0:Int)<=((F:Int)+1):=by omega
     have ba:((F:Int)+1)<(N:Int):=by omega
     have ra:IntKind.i64.wrap (((F:Int)+1))=((F:Int)+1):=by rw[IntKind.wrap_i64];omega
     have ec:((F:Int)).toNat=jN:=by omega
     have pc:(0:Int)<=(F:Int):=by omega
     have bc:(F:Int)<(N:Int):=by omega
     have rc:IntKind.i64.wrap ((F:Int))=(F:Int):=by rw[IntKind.wrap_i64];omega
     have S3:Aside (SW enc O blk D (swp dj k F) ((wr.setCell ⟨blk,D+iN,none⟩ (enc y)).setCell ⟨blk,D+jN,none⟩ (enc x)).drew):=by
      have:=J.out.swapped R k F (by omega) (by omega);rw[gx,gy] at this;rw[U,V];exact this
     have ca:wr.cell? ⟨blk,D+iN,none⟩=some (enc x):=by rw[U];have:=J.out.c1 R (by omega) k (by omega);rw[gx] at this;exact this
     have cb':wr.cell? ⟨blk,D+jN,none⟩=some (enc y):=by rw[V];have:=J.out.c1 R (by omega) F (by omega);rw[gy] at this;exact this
     have fa:wr.frozen? ⟨blk,D+iN,none⟩=false:=by rw[U];exact J.out.f1 R (by omega) k (by omega)
     have fb:wr.frozen? ⟨blk,D+jN,none⟩=false:=by rw[V];exact J.out.f1 R (by omega) F (by omega)
     obtain⟨u,cc⟩:∃u,(wr.setCell ⟨blk,D+iN,none⟩ (enc y)).cell? ⟨blk,D+jN,none⟩=some u:=by rw[U,V];exact J.out.c2 R (by omega) k F (by omega) (by omega) (enc y)
     have GS:Aside (swp dj k F=(P++(K++(L5++x::((y::L4)++S)))).toArray):=gs;clear J gx gy gs U V;go_wp2_with fail
     go_big_region_o
     clear ca cb' cc fa fb;generalize ((wr.setCell ⟨blk,D+iN,none⟩ (enc y)).setCell ⟨blk,D+jN,none⟩ (enc x)).drew=w3 at S3⊢;clear ea ec;go_wp2
     go_roundg (F-i)
     case measure=>omega
     case rel=>exact⟨F,L5,y::L4,by first|rfl|go_num|(congr 1;omega),by omega,by omega,by omega,by rw[aU.out,HY.out.1];simp,HY.out.2,by have:=S3.out;rw[GS.out] at this;exact this⟩
    ·have aI:¬(i:Int)<(k:Int):=by omega
     go_wp2
     try simp only[Exit.inBlock,Exit.then]
     refine bodyPost_ret (results_none rfl _ _ _) rfl ?_;obtain⟨q1,q2,q3⟩:=HJ.out;obtain⟨k1,k2,k3,k4,k5⟩:=HL.out;obtain⟨r1,r2,r3,r4⟩:=HR.out;have h4:Z=[]:=List.length_eq_zero_iff.1 (by omega);rw[h4,List.nil_append] at q1;rw[h4,<-q1] at q3;obtain⟨p1,p2⟩:=put_one aF.out (r1▸k5) r4 r3;exact⟨rfl,K++x::L2,p1,by rw[r1];exact p2,by simpa using q3⟩
end Stb
end Go.Proofs.YtjlgejennghhlaaGreatDoor
