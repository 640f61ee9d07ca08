import Derived.Test.YtjlgejennghhlaaGreatDoorR01
import Derived.Test.YtjlgejennghhlaaGreatDoorR03
set_option linter.unusedSimpArgs false
set_option linter.unusedVariables false
set_option linter.unusedSectionVars false
set_option maxRecDepth 1000000
set_option maxHeartbeats 16000000
namespace Go.Proofs.YtjlgejennghhlaaGreatDoor
open Go.RowKit
abbrev V3:=Int×Int×List UInt8
def vl (x:V3):Vl:=(x.1,x.2.1,⟨x.2.2.toArray⟩)
def QaW:List Cl->List UInt8->Bool->Option (List V3)
 |[],_,more=>if more then none else some []
 |c::q,rest,_=>match Qbj (cutV false rest).1 with
  |none=>none
  |some v=>if v.1=c.2 then(QaW q (cutV false rest).2.1 (cutV false rest).2.2).map (v::·) else none
def Qag (vs:List Vl):List Value:=vs.flatMap fun v=>[.int .i64 v.1,.int .i64 v.2.1,.string v.2.2]
theorem Qdb (a b:List Vl):Qag (a++b)=Qag a++Qag b:=by simp[Qag]
theorem QcP:∀(y:List Vl) (j:Nat) (h:j<y.length),(Qag y)[j*3]? =some (.int .i64 y[j].1)/\(Qag y)[j*3+1]? =some (.int .i64 y[j].2.1)/\(Qag y)[j*3+2]? =some (.string y[j].2.2)
 |[],_,h=>absurd h (by simp)
 |c::r,0,_=>⟨rfl,rfl,rfl⟩
 |c::r,j+1,h=>by
  have:=QcP r j (by simpa using h);have e:Qag (c::r)=.int .i64 c.1::.int .i64 c.2.1::.string c.2.2::Qag r:=by simp[Qag]
  rw[e,show(j+1)*3=j*3+1+1+1 by omega];simpa using this
theorem QbE {w:World} {base:Nat} {v:Value} {y:List Vl} (h:w.ownsRow base 46 3 v y.length (Qag y)) (I:∀x∈y,x.2.2.size<=maxLen):QcA w v y:=by
 have D:=h;obtain⟨-,h|⟨g,H,N,rfl,V,U,F,O,_,_⟩⟩:=h
 ·obtain⟨rfl,F⟩:=h;exact⟨none,0,by rw[F],I,Or.inl (List.length_eq_zero_iff.1 F)⟩
 ·refine⟨some ⟨g,0,none⟩,H,rfl,I,Or.inr ⟨g,0,rfl,(D.lt g rfl).2,fun j hj=>?_⟩⟩;have E:=QcP y j hj;have J:=D.cellAt (j*3) (by omega);have M:=D.cellAt (j*3+1) (by omega);have K:=D.cellAt (j*3+2) (by omega);rw[show 0+j*3=j*3 by omega];exact⟨J.trans E.1,M.trans E.2.1,K.trans E.2.2⟩
theorem Qe2:∀(l:List UInt8) (q:Bool),(cutV q l).1.length<=l.length/\(cutV q l).2.1.length<=l.length
 |[],_=>⟨Nat.le_refl _,Nat.le_refl _⟩
 |c::r,q=>by
  have h:=Qe2 r q;have y:=Qe2 r (!q);unfold cutV;split
  ·simp;omega
  ·split
   ·simp
   ·simp;omega
theorem Qkn {l:List UInt8} {v:V3} (h:Qbj l=some v):Qao v.1 v.2.1 v.2.2=true/\v.2.2.length<=16:=by
 unfold Qbj at h;split at h
 ·rename_i y
  injection h with h;subst h;exact⟨y.1,(Qa4 y.1).1⟩
 ·exact absurd h (by simp)
theorem Qfp (s:ByteArray) (w:World) (y:s.size<=1000000) (D:Env w) (h:Qbj s.data.toList=none):
 Calls Tryz.prog 88 #[.string s] w fun e w'=>e=.returned (.tuple #[.agg #[.int .i64 0,.int .i64 0,.string ⟨#[]⟩],.iface 37 (.int .i64 3)])/\Below w.heap.size w w':=by
 have:=QdE s w y D;rw[h] at this;exact this
theorem Qdc (s:ByteArray) (w:World) (v:V3) (y:s.size<=1000000) (D:Env w) (h:Qbj s.data.toList=some v):
 Calls Tryz.prog 88 #[.string s] w fun e w'=>e=.returned (.tuple #[.agg #[.int .i64 v.1,.int .i64 v.2.1,.string ⟨v.2.2.toArray⟩],.nilIface])/\Below w.heap.size w w':=by
 have:=QdE s w y D;rw[h] at this;exact this
def Qqk (e:Ending) (w':World) (B:Nat):Option (List V3)->Prop
 |some vs=>∃v,e=.returned (.tuple #[v,.bool true])/\w'.ownsRow B 46 3 v vs.length (Qag (vs.map vl))/\∀x∈vs,x.2.2.length<=16
 |none=>e=.returned (.tuple #[.slice none 0 0,.bool false])
def Qko (cs:List Cl) (l:List UInt8) (k:Nat) (rest:List UInt8) (more:Bool) (acc:List V3):Prop:=
 acc.length=k/\(∀v∈acc,v.2.2.length<=16)/\rest.length<=l.length/\QaW cs l false=(QaW (cs.drop k) rest more).map (acc++·)
theorem Qkp (cs:List Cl) (l:List UInt8):Qko cs l 0 l false []:=⟨rfl,by simp,Nat.le_refl _,by simp⟩
theorem Qkq {cs:List Cl} {l rest:List UInt8} {k:Nat} {more:Bool} {acc:List V3} {v:V3} (h:Qko cs l k rest more acc) (E:k<cs.length) (D:Qbj (cutV false rest).1=some v) (F:v.1=cs[k].2):
 Qko cs l (k+1) (cutV false rest).2.1 (cutV false rest).2.2 (acc++[v]):=by
 obtain⟨J,H,K,I⟩:=h;refine⟨by simp[J],?_,by have:=(Qe2 rest false).2;omega,?_⟩
 ·intro x y;rw[List.mem_append] at y;rcases y with y|y
  ·exact H x y
  ·simp at y;rw[y];exact(Qkn D).2
 ·rw[I,List.drop_eq_getElem_cons E];simp only[QaW,D,F,if_true,Option.map_map]
  congr 1
  funext x
  simp
theorem QhB {cs:List Cl} {l rest:List UInt8} {k:Nat} {more:Bool} {acc:List V3} (h:Qko cs l k rest more acc) (E:k<cs.length) (y:Qbj (cutV false rest).1=none\/∃v,Qbj (cutV false rest).1=some v/\v.1≠cs[k].2):QaW cs l false=none:=by
 rw[h.2.2.2,List.drop_eq_getElem_cons E];rcases y with y|⟨v,y,D⟩
 ·simp[QaW,y]
 ·simp[QaW,y,D]
theorem QlI {cs:List Cl} {l rest:List UInt8} {k:Nat} {more:Bool} {acc:List V3} (h:Qko cs l k rest more acc) (y:¬k<cs.length):QaW cs l false=if more then none else some acc:=by
 rw[h.2.2.2,List.drop_eq_nil_of_le (by omega)]
 cases more<;>simp[QaW]
theorem Qfq {w wr y:World} {o:Obj} (h:Below w.heap.size w wr) (D:Below (wr.alloc o).heap.size (wr.alloc o) y):Below w.heap.size w y:=
 (h.alloc h.size o).trans (D.mono (by have:=h.size;simp;omega))
theorem bel_then {w h D:World} (y:Below w.heap.size w h) (E:Below h.heap.size h D):Below w.heap.size w D:=y.trans (E.mono y.size)
theorem bel_box {w y:World} (h:Below w.heap.size w y) (o:Obj):Below w.heap.size w (y.alloc o):=h.alloc h.size o
theorem Tryz.infoVal:(Tryz.prog.info? 46).map (fun i=>(i.zero,i.size,i.bytes))=some (some (.agg #[.int .i64 0,.int .i64 0,.string ⟨#[]⟩]),3,32):=by kernel_rfl
theorem Qfr (s:ByteArray) (b o n c:Nat) (cs:List Cl) (w:World) (hs:s.size<=100000) (hE:Env w) (hn:cs.length=n) (h6:n<=100) (hb:b<w.heap.size) (hc:Qau w b o cs):
 Calls Tryz.prog 50 #[.string s,.slice (some ⟨b,o,none⟩) n c] w fun e w'=>Below w.heap.size w w'/\Qqk e w' w.heap.size (QaW cs s.data.toList false):=by
 obtain⟨i0,hi,al,ao,ap⟩:=info_parts Tryz.infoVal;have HN:=Hk hn;have HE:=Hk hE;clear hn hE;go_enter Tryz.func50,Tryz.ntmps50;go_wp2;go_loopw [6,7,8,17] (fun v r m i wr=>∃(k:Nat) (rest:List UInt8) (more:Bool) (acc:List V3),k<=n/\r=.string ⟨rest.toArray⟩/\m=.bool more/\i=.int .i64 k/\Qko cs s.data.toList k rest more acc/\wr.ownsRow w.heap.size 46 3 v k (Qag (acc.map vl))/\Below w.heap.size w wr) (fun _ _ _ i _=>n-(intOf i).toNat)
 case atStart=>exact⟨0,s.data.toList,false,[],Nat.zero_le _,by simp,rfl,rfl,Qkp _ _,World.ownsRow_nil _ _ _ _,Below.refl _ _⟩
 case round=>
  obtain⟨k,rest,more,acc,hk,rfl,rfl,rfl,O,E,D⟩:=hrel;have H:=Hk O;have aF:rest.length<=100000:=by have:=O.2.2.1;simp at this;omega
  clear O
  by_cases hlt:k<n
  ·have J:k<cs.length:=by have:=HN.out;omega
   obtain⟨c1,c2⟩:=hc k J;have d1:=cK D hb c1;have d2:=cK D hb c2;clear c1 c2;have ab:=Hk (HE.out.below D);have ai:=Qhx ⟨rest.toArray⟩ (wr.alloc (.cells #[.string cs[k].1,.int .i64 cs[k].2] 64)) (by unfold maxLen;simp[ByteArray.size];omega);have aa:Hid (Calls Tryz.prog 87 #[.string ⟨rest.toArray⟩] (wr.alloc (.cells #[.string cs[k].1,.int .i64 cs[k].2] 64)) fun e w'=>e=.returned (.tuple #[.string ⟨(cutV false rest).1.toArray⟩,.string ⟨(cutV false rest).2.1.toArray⟩,.bool (cutV false rest).2.2])/\Below (wr.alloc (.cells #[.string cs[k].1,.int .i64 cs[k].2] 64)).heap.size (wr.alloc (.cells #[.string cs[k].1,.int .i64 cs[k].2] 64)) w'):=ai;clear ai;have aE:=(Qe2 rest false).1
   cases hp:Qbj (cutV false rest).1 with
   |none=>
    have I:=Hk (QhB H.out J (Or.inl hp));have K:=Hk hp;clear hp;go_wp2_with (first|(go_at_call 87;refine aa.out.mono ?_;rintro e w2 ⟨rfl,h⟩;obtain⟨Z,ac⟩:=QaQ h)|(go_at_call 88;refine(Qfp _ _ (by simp[ByteArray.size];omega) ((ab.out.below (Qaa _ _)).below h) K.out).mono ?_;rintro e M ⟨rfl,y⟩;obtain⟨ad,N⟩:=QaQ y))
    go_ret2
    exact⟨bel_box (bel_then (Qfq D h) y) _,by rw[I.out];rfl⟩
   |some v=>
    have K:=Hk hp;clear hp
    cases ah:(v.1 != cs[k].2)
    ·have hkd':v.1=cs[k].2:=by simpa using ah
     have aw:=Hk (Qkq H.out J K.out hkd');clear hkd';go_wp2_with (first|(go_at_call 87;refine aa.out.mono ?_;rintro e w2 ⟨rfl,h⟩;obtain⟨Z,ac⟩:=QaQ h;have hz2':wr.heap.size<w2.heap.size:=by(have:=h.size;simp at this;omega))|(go_at_call 88;refine(Qdc _ _ v (by simp[ByteArray.size];omega) ((ab.out.below (Qaa _ _)).below h) K.out).mono ?_;rintro e M ⟨rfl,y⟩;obtain⟨ad,N⟩:=QaQ y;have hz3':wr.heap.size<M.heap.size:=by(have:=y.size;omega))|(at_builtin;refine wpList_append_own _ rfl _ _ 84 rfl w.heap.size 46 i0 (.agg #[.int .i64 0,.int .i64 0,.string ⟨#[]⟩]) 3 32 Tryz.underlying84 hi al ao ap rfl (by decide) _ _ _ rfl (((owns_below (owns_below (E.alloc _) h) y).alloc _).alloc _) ⟨M.heap.size+1,0,none⟩ 1 1 [.int .i64 v.1,.int .i64 v.2.1,.string ⟨v.2.2.toArray⟩] rfl rfl ?c1 ?c2 ?c3 ?c4 ?c5 ?_))
     case c1=>
      intro j u F
      match j,F with
      |0,F=>simp at F;subst F;simp[Addr.add]
      |1,F=>simp at F;subst F;simp[Addr.add]
      |2,F=>simp at F;subst F;simp[Addr.add]
     case c2=>intro u hu;simp at hu;rcases hu with rfl|rfl|rfl<;>rfl
     case c3=>unfold maxLen;omega
     case c4=>omega
     case c5=>have:=D.size;simp;omega
     ·intro v' w4 af ae _;have ak:Below w.heap.size w w4:=((bel_box (bel_box (bel_then (Qfq D h) y) _) _)).grown ae (by have:=D.size;simp;omega) (fun q hq=>(E.lt q hq).1);clear Z ac ad N;go_wp2;go_roundw
      case rel=>exact⟨k+1,(cutV false rest).2.1,(cutV false rest).2.2,acc++[v],by omega,rfl,rfl,by go_num,aw.out,by rw[List.map_append,Qdb];exact af,ak⟩
      case measure=>simp[intOf];omega
    ·have hkd':v.1≠cs[k].2:=by simpa using ah
     have I:=Hk (QhB H.out J (Or.inr ⟨v,K.out,hkd'⟩));clear hkd';go_wp2_with (first|(go_at_call 87;refine aa.out.mono ?_;rintro e w2 ⟨rfl,h⟩;obtain⟨Z,ac⟩:=QaQ h;have hz2':wr.heap.size<w2.heap.size:=by(have:=h.size;simp at this;omega))|(go_at_call 88;refine(Qdc _ _ v (by simp[ByteArray.size];omega) ((ab.out.below (Qaa _ _)).below h) K.out).mono ?_;rintro e M ⟨rfl,y⟩;obtain⟨ad,N⟩:=QaQ y;have hz3':wr.heap.size<M.heap.size:=by(have:=y.size;omega)))
     go_ret2
     exact⟨bel_box (bel_then (Qfq D h) y) _,by rw[I.out];rfl⟩
  ·have U:=Hk (QlI H.out (by have:=HN.out;omega));have V:acc.length=k:=H.out.1;have aj:=H.out.2.1;rw[<-V] at E;have HR:=Hk E;have HS:=Hk aj;clear V aj E
   cases more
   ·go_wp2
    go_ret2
    refine⟨D,?_⟩;rw[U.out];exact⟨_,rfl,HR.out,HS.out⟩
   ·go_wp2
    go_ret2
    refine⟨D,?_⟩;rw[U.out];rfl
theorem wrong_any (e p:Int) (w:World):
 Calls Tryz.prog 49 #[.int .i64 e,.int .i64 p] w fun en w'=>en=.returned (.tuple #[.agg #[.slice none 0 0,.slice none 0 0],.iface 100 (.pointer (some ⟨w.heap.size+1,0,none⟩))])/\w.heap.size+1<w'.heap.size/\w'.cell? ⟨w.heap.size+1,0,none⟩=some (.int .i64 e)/\w'.cell? ⟨w.heap.size+1,1,none⟩=some (.int .i64 p)/\Below w.heap.size w w':=by
 go_enter Tryz.func49,Tryz.ntmps49;go_wp2;refine bodyPost_ret (v:=.tuple #[.agg #[.slice none 0 0,.slice none 0 0],.iface 100 (.pointer (some ⟨w.heap.size+1,0,none⟩))]) (by simp[results,Tryz.results49,go_sem]) rfl ⟨rfl,by simp,by simp,by simp,?_⟩;exact bel_box (Qaa _ _) _
def QaL (cs:List Cl):Nat->List (List V3)->List UInt8->Bool->Except (Int×Nat) (List (List V3))
 |0,_,_,_=>.error (0,0)
 |f+1,acc,rest,ended=>
  if ended=true/\rest≠[] then
   match QaW cs (Lib.cut rest [10]).1 false with
   |none=>.error (3,1+acc.length)
   |some r=>if acc.length=60 then .error (4,1+acc.length) else QaL cs f (acc++[r]) (Lib.cut rest [10]).2.1 (Lib.cut rest [10]).2.2
  else if ended=true then .ok acc else .error (3,1+acc.length)
def Qjp (l:List UInt8):List Cl:=colsOf ⟨(Lib.cut l [10]).1.toArray⟩
def QhC (l:List UInt8):Except (Int×Nat) (List Cl×List (List V3)):=
 if Qaj (Qjp l)=true then
  match QaL (Qjp l) (l.length+1) [] (Lib.cut l [10]).2.1 (Lib.cut l [10]).2.2 with
  |.ok rs=>.ok (Qjp l,rs)
  |.error x=>.error x
 else .error (3,0)
def Qfs (w:World) (B:Nat) (us:List Value) (rs:List (List V3)):Prop:=
 us.length=rs.length/\∀(j:Nat) (h:j<us.length) (h':j<rs.length),w.ownsRow B 46 3 us[j] rs[j].length (Qag (rs[j].map vl))
def Qjq (e:Ending) (w':World):Except (Int×Nat) (List Cl×List (List V3))->Prop
 |.ok (cs,rs)=>∃vc vr,e=.returned (.tuple #[.agg #[vc,vr],.nilIface])/\Qax w' vc cs/\QaG w' vr (rs.map (·.map vl))
 |.error (x,p)=>∃N,e=.returned (.tuple #[.agg #[.slice none 0 0,.slice none 0 0],.iface 100 (.pointer (some ⟨N,0,none⟩))])/\N<w'.heap.size/\w'.cell? ⟨N,0,none⟩=some (.int .i64 x)/\w'.cell? ⟨N,1,none⟩=some (.int .i64 (p:Int))
theorem Qe3 (w:World) (R o N j:Nat) (v:Value) (h:N≠R):(w.setCell ⟨R,o,none⟩ v).cell? ⟨N,j,none⟩=w.cell? ⟨N,j,none⟩:=World.cell?_of_block (Below.heap_setCell _ _ _ _ h)
theorem Qft {h:World} {R N:Nat} {x:Int} {p:Nat} {u v:Value} (E:N<h.heap.size) (F:R<N) (D:h.cell? ⟨N,0,none⟩=some (.int .i64 x)) (y:h.cell? ⟨N,1,none⟩=some (.int .i64 (p:Int))):
 Qjq (.returned (.tuple #[.agg #[.slice none 0 0,.slice none 0 0],.iface 100 (.pointer (some ⟨N,0,none⟩))])) ((h.setCell ⟨R,0,none⟩ u).setCell ⟨R,1,none⟩ v) (.error (x,p)):=by
 refine⟨N,rfl,by simpa [World.setCell] using E,?_,?_⟩
 ·rw[Qe3 _ _ _ _ _ _ (by omega),Qe3 _ _ _ _ _ _ (by omega)];exact D
 ·rw[Qe3 _ _ _ _ _ _ (by omega),Qe3 _ _ _ _ _ _ (by omega)];exact y
def Qgo (wr W:World) (tb:Nat) (vc vr:Value) (us:List Value) (acc:List (List V3)):Prop:=
 tb<wr.heap.size/\wr.cell? ⟨tb,0,none⟩=some vc/\wr.cell? ⟨tb,1,none⟩=some vr/\wr.frozen? ⟨tb,1,none⟩=false/\wr.ownsRow (tb+1) 84 1 vr acc.length us/\Qfs wr (tb+1) us acc/\(∀r∈acc,∀x∈r,x.2.2.length<=16)/\Below tb W wr
theorem Qb4 {w:World} {B B':Nat} {e E:TypeId} {z J:Nat} {u v:Value} {n m:Nat} {xs F:List Value} (he:e≠E) (h:w.ownsRow B e z u n xs) (k:w.ownsRow B' E J v m F):u.ownBlock=none\/u.ownBlock≠v.ownBlock:=by
 obtain⟨-,⟨rfl,-⟩|⟨g,M,K,rfl,-,y,-⟩⟩:=h
 ·exact Or.inl rfl
 ·obtain⟨-,⟨rfl,-⟩|⟨N,H,I,rfl,-,D,-⟩⟩:=k
  ·exact Or.inr (by simp[Value.ownBlock])
  ·refine Or.inr (fun e1=>?_);simp only[Value.ownBlock,Option.some.injEq] at e1;rw[e1,D] at y;simp only[Option.some.injEq,Obj.cells.injEq] at y;exact he y.2.1.symm
theorem Qjr {wr W K y F:World} {tb:Nat} {vc M u J:Value} {us:List Value} {acc:List (List V3)} {row:List V3} (h:Qgo wr W tb vc M us acc) (O:Below wr.heap.size wr K) (af:Below K.heap.size K y)
 (hu:y.ownsRow K.heap.size 46 3 u row.length (Qag (row.map vl))) (hr:∀x∈row,x.2.2.length<=16) (o:Obj) (V:F.ownsRow (tb+1) 84 1 J (acc.length+1) (us++[u])) (H:(y.alloc o).grownBy F M.ownBlock):
 Qgo (F.setCell ⟨tb,1,none⟩ J) W tb vc J (us++[u]) (acc++[row]):=by
 obtain⟨Z,h2,h3,h4,h5,I,h7,h8⟩:=h;have D:Below wr.heap.size wr y:=bel_then O af;have N:some tb≠M.ownBlock:=fun e=>by have:=(h5.lt tb e.symm).1;omega
 have s4:=D.size;have s3:=O.size;have s5:=H.size;simp only[show(y.alloc o).heap.size=y.heap.size+1 by simp] at s5;have tc:∀j v,wr.cell? ⟨tb,j,none⟩=some v->F.cell? ⟨tb,j,none⟩=some v:=fun j v hv=>
  H.cell (a:=⟨tb,j,none⟩) (by rw[World.cell?_alloc_past _ _ _ (by show tb<_;omega)];exact cK D Z hv) N
 have tf:F.frozen? ⟨tb,1,none⟩=false:=by
  rw[World.frozen?_of_block (w:=y.alloc o) (w':=F) (a:=⟨tb,1,none⟩) (H.block tb (by simp;omega) N)];rw[World.frozen?_of_block (w:=y) (w':=y.alloc o) (a:=⟨tb,1,none⟩) (Below.heap_alloc _ _ _ (by show tb<_;omega))];exact(D.frozen (p:=⟨tb,1,none⟩) Z).trans h4
 refine⟨by simp[World.setCell];omega,?_,?_,?_,?_,?_,?_,?_⟩
 ·have:=World.cell?_setCell_other (w:=F) (a:=⟨tb,1,none⟩) (b:=⟨tb,0,none⟩) (v:=J) (by simp);rw[this];exact tc 0 _ h2
 ·exact World.cell?_setCell_same _ _ _ (tc 1 _ h3)
 ·rw[World.frozen?_setCell];exact tf
 ·rw[List.length_append];exact ownsRow_setCell_below V (by show tb<_;omega) _
 ·refine⟨by simp[I.1],fun j hj hj'=>ownsRow_setCell_below ?_ (by show tb<_;omega) _⟩;have h5':y.ownsRow (tb+1) 84 1 M acc.length us:=owns_below h5 D
  by_cases hlt:j<us.length
  ·rw[List.getElem_append_left hlt,List.getElem_append_left (by rw[<-I.1];exact hlt)];have U:=owns_below (I.2 j hlt (by rw[<-I.1];exact hlt)) D;exact(U.alloc o).kept H (Qb4 (by decide) U h5')
  ·have ad:j=us.length:=by rw[List.length_append] at hj;simp at hj;omega
   subst ad;have e1:(us++[u])[us.length]=u:=by simp
   have e2:(acc++[row])[us.length]'(by rw[I.1];simp)=row:=by simp[I.1]
   rw[e1,e2];exact own_mono (by omega) ((hu.alloc o).kept H (Qb4 (by decide) hu h5'))
 ·intro r E x hx;rw[List.mem_append] at E;rcases E with E|E
  ·exact h7 r E x hx
  ·simp at E;rw[E] at hx;exact hr x hx
 ·exact(((h8.trans (D.mono (Nat.le_of_lt Z))).alloc (by omega) o).grown H (by simp;omega) (fun q hq=>by have:=(h5.lt q hq).1;omega)).setCell (Nat.le_refl _) _
def Qjs:Value->Nat|.string s=>s.size|_=>0
theorem Qfu {l h r:List UInt8} {y:Bool} (D:Lib.cut l [10]=(h,r,y)):QhC l=if Qaj (colsOf ⟨h.toArray⟩)=true then
 match QaL (colsOf ⟨h.toArray⟩) (l.length+1) [] r y with
 |.ok rs=>.ok (colsOf ⟨h.toArray⟩,rs)
 |.error x=>.error x
 else .error (3,0):=by
 unfold QhC Qjp;rw[D]
theorem Tryz.infoRow:(Tryz.prog.info? 84).map (fun i=>(i.zero,i.size,i.bytes))=some (some (.slice none 0 0),1,24):=by kernel_rfl
theorem QiN {wr:World} {tb:Nat} {F:Value} {us:List Value} {acc:List (List V3)} (h5:wr.ownsRow (tb+1) 84 1 F acc.length us) (E:Qfs wr (tb+1) us acc) (M:∀r∈acc,∀x∈r,x.2.2.length<=16):QaG wr F (acc.map (·.map vl)):=by
 have I:=h5;obtain⟨O,⟨rfl,D⟩|⟨g,H,N,rfl,Z,V,D,U,_,_⟩⟩:=h5
 ·exact⟨none,0,by rw[List.length_map,D],Or.inl (by rw[List.length_eq_zero_iff.1 D];rfl)⟩
 ·refine⟨some ⟨g,0,none⟩,H,by rw[List.length_map],Or.inr ⟨g,0,rfl,(I.lt g rfl).2,fun j hj=>?_⟩⟩;rw[List.length_map] at hj;have h:j<us.length:=by rw[E.1];exact hj
  refine⟨us[j],?_,?_⟩
  ·have e:=I.cellAt j (by omega);rw[show 0+j=j by omega,e,List.getElem?_eq_getElem h]
  ·rw[List.getElem_map];refine QbE (base:=tb+1) (by rw[List.length_map];exact E.2 j h hj) ?_;intro x J;rw[List.mem_map] at J;obtain⟨y,K,rfl⟩:=J;have:=M _ (List.getElem_mem hj) y K
   show y.2.2.toArray.size<=maxLen
   unfold maxLen;simp;omega
theorem Qe4 {wr:World} {B R o:Nat} {v:Value} {us:List Value} {acc:List (List V3)} (h:Qfs wr B us acc) (y:R<B):Qfs (wr.setCell ⟨R,o,none⟩ v) B us acc:=
 ⟨h.1,fun j hj hj'=>ownsRow_setCell_below (h.2 j hj hj') y _⟩
theorem Qgp {W wr:World} {B tb:Nat} {e:TypeId} {z:Nat} {v:Value} {n:Nat} {xs:List Value} (h:W.ownsRow B e z v n xs) (J:Below tb W wr) (D:∀k,v.ownBlock=some k->k<tb):wr.ownsRow B e z v n xs:=by
 obtain⟨E,H|⟨g,F,y,rfl,K,I,r⟩⟩:=h
 ·exact⟨E,Or.inl H⟩
 ·exact⟨E,Or.inr ⟨g,F,y,rfl,K,by rw[J.block g (D g rfl)];exact I,r⟩⟩
theorem QcB {cs:List Cl} {f:Nat} {acc:List (List V3)} {rest:List UInt8} {row:List V3} (D:rest≠[]) (h:QaW cs (Lib.cut rest [10]).1 false=some row) (y:acc.length≠60):QaL cs (f+1) acc rest true=QaL cs f (acc++[row]) (Lib.cut rest [10]).2.1 (Lib.cut rest [10]).2.2:=by
 simp[QaL,D,h,y]
theorem QhD {cs:List Cl} {f:Nat} {acc:List (List V3)} {rest:List UInt8} (y:rest≠[]) (h:QaW cs (Lib.cut rest [10]).1 false=none):QaL cs (f+1) acc rest true=.error (3,1+acc.length):=by
 simp[QaL,y,h]
theorem Qgq {cs:List Cl} {f:Nat} {acc:List (List V3)} {rest:List UInt8} {row:List V3} (D:rest≠[]) (h:QaW cs (Lib.cut rest [10]).1 false=some row) (y:acc.length=60):QaL cs (f+1) acc rest true=.error (4,1+acc.length):=by
 simp[QaL,D,h,y]
theorem Qfv {cs:List Cl} {f:Nat} {acc:List (List V3)}:QaL cs (f+1) acc [] true=.ok acc:=by simp[QaL]
theorem QhE {cs:List Cl} {f:Nat} {acc:List (List V3)} {rest:List UInt8}:QaL cs (f+1) acc rest false=.error (3,1+acc.length):=by simp[QaL]
theorem Qjt (rest:List UInt8) (h:rest≠[]):(Lib.cut rest [10]).2.1.length<rest.length:=by
 have:0<rest.length:=List.length_pos_iff.2 h;unfold Lib.cut;split
 ·simp;omega
 ·simpa using this
theorem parse_any (s:ByteArray) (w:World) (hs:s.size<=100000) (hE:Env w):
 Calls Tryz.prog 18 #[.string s] w fun e w'=>Below w.heap.size w w'/\Qjq e w' (QhC s.data.toList):=by
 have HE:=Hk hE;clear hE;have aJ:Env (w.alloc (.cells #[.slice none 0 0,.slice none 0 0] 54)):=HE.out.below (Qaa _ _);have a7:=Hk (Qfk s ⟨#[10]⟩ (w.alloc (.cells #[.slice none 0 0,.slice none 0 0] 54)) (by omega) aJ);have a9:=Hk aJ;clear aJ;go_enter Tryz.func18,Tryz.ntmps18;go_wp2_with (first|(go_at_call 47;refine a7.out.mono ?_;rintro e w1 ⟨rfl,ar⟩;obtain⟨aM,aV⟩:=QaQ ar)|(go_at_call 48;fail));have aW:=Qfn s.data.toList [10];have bg:s.data.toList.length=s.size:=by simp
 generalize hx:Lib.cut s.data.toList [10]=x at*;obtain⟨h,r,en⟩:=x;have HX:=Hk (Qfu hx);have ci:h.length<=100000:=by have:=aW.1;simp only at this;omega
 have cq:r.length<=s.size:=by have:=aW.2;simp only at this;omega
 have bS:=Hk bg;clear hx aW bg a7;have aT:=Hk (a9.out.below ar);have hR:w.heap.size<w1.heap.size:=by have:=ar.size;simp at this;omega
 have q0:w1.cell? ⟨w.heap.size,0,none⟩=some (.slice none 0 0):=(aM _ _ (by simp)).trans (by simp);have q1:w1.cell? ⟨w.heap.size,1,none⟩=some (.slice none 0 0):=(aM _ _ (by simp)).trans (by simp);have z0:w1.frozen? ⟨w.heap.size,0,none⟩=false:=(aV _ _ (by simp)).trans (by simp);have z1:w1.frozen? ⟨w.heap.size,1,none⟩=false:=(aV _ _ (by simp)).trans (by simp);have b1:Below w.heap.size w w1:=(Qaa w _).trans (ar.mono (by simp));have aS:=Hk b1;clear aM aV ar b1;refine(QdV ⟨h.toArray⟩ w1 (by simp[ByteArray.size];omega) aT.out).mono ?_;rintro e E ⟨ag,ao⟩;unfold Qfo at ao;obtain⟨ab,aA⟩:=QaQ ag;have s2:=ag.size;have K:w.heap.size<E.heap.size:=by omega
 by_cases g:Qaj (colsOf ⟨h.toArray⟩)=true
 ·rw[if_pos g] at ao;obtain⟨vc,rfl,aj,aQ⟩:=ao;have Z:=HX.out;rw[if_pos g] at Z;have ac:=Hk Z;have aH:=Qbr g;clear HX Z;generalize colsOf ⟨h.toArray⟩=cs at*;have aU:=Qbm aj aQ;obtain⟨-,cg|⟨g1,al,ax,rfl,co,bx,b2,-⟩⟩:=id aj
  ·omega
  ·have bb:=(aj.lt g1 rfl).2;have aB:Qau E g1 0 cs:=by
    obtain⟨a,c,e1,-,-,hh⟩:=aU;rcases hh with hh|⟨b,o,e2,hl,aB⟩
    ·rw[hh] at aH;simp at aH
    ·rw[e2] at e1;simp only[Value.slice.injEq,Option.some.injEq,Addr.mk.injEq,and_true,true_and] at e1;obtain⟨⟨rfl,rfl⟩,-⟩:=e1;exact aB
   have bd:=Hk aj;have be:=Hk aB;have bI:=Hk aQ;clear aj aB aQ aU bx ax;have q0':=(ab _ 0 hR).trans q0;have q1':=(ab _ 1 hR).trans q1;have z0':=(aA _ 0 hR).trans z0;have z1':=(aA _ 1 hR).trans z1;have hb2':=Hk ag;clear ab aA ag q0 q1 z0 z1;go_wp2;obtain⟨W,hW⟩:∃W,W=E.alloc (.cells #[.slice (some ⟨g1,0,none⟩) cs.length al,.slice none 0 0] 54):=⟨_,rfl⟩;rw[<-hW];have F:Below E.heap.size E W:=by rw[hW];exact Qaa _ _
   have bh:Qgo W W E.heap.size (.slice (some ⟨g1,0,none⟩) cs.length al) (.slice none 0 0) [] []:=by
    rw[hW];exact⟨by simp,by simp,by simp,by simp,World.ownsRow_nil _ _ _ _,⟨rfl,fun j hj=>absurd hj (by simp)⟩,by simp,Below.refl _ _⟩
   have bU:=Hk (bel_then (bel_then aS.out hb2'.out) F);have ct:=Hk ((aT.out.below hb2'.out).below F);have bk:=Hk (be.out.below F bb);have bv:=Hk (owns_below bd.out F);have y0:=cK F K q0';have y1:=cK F K q1';have x0:=(F.frozen (p:=⟨w.heap.size,0,none⟩) K).trans z0';have x1:=(F.frozen (p:=⟨w.heap.size,1,none⟩) K).trans z1';have Y0:=Hk y0;have Y1:=Hk y1;have X0:=Hk x0;have X1:=Hk x1;clear y0 y1 x0 x1 q0' q1' z0' z1' hW hb2' a9 aT aS bd be;obtain⟨i0,hi,bD,bT,bK⟩:=info_parts Tryz.infoRow;have bR:=Hk bh;clear bh F;go_loopw [5,6] (fun rv mv wr=>∃(rest:List UInt8) (ay:Bool) (acc:List (List V3)) (us:List Value) (vr:Value) (f:Nat),rv=.string ⟨rest.toArray⟩/\mv=.bool ay/\rest.length<f/\rest.length<=100000/\acc.length<=60/\QaL cs (s.data.toList.length+1) [] r en=QaL cs f acc rest ay/\Qgo wr W E.heap.size (.slice (some ⟨g1,0,none⟩) cs.length al) vr us acc) (fun rv _ _=>Qjs rv)
   case atStart=>exact⟨r,en,[],[],_,s.data.toList.length+1,rfl,rfl,by have:=bS.out;omega,by omega,by simp,rfl,bR.out⟩
   case round=>
    obtain⟨rest,ay,acc,us,vr,f,rfl,rfl,hf,ce,ck,aK,aN⟩:=hrel;obtain⟨f,rfl⟩:∃f',f=f'+1:=⟨f-1,by omega⟩;have HM:=Hk aN;have O:=Hk aK;obtain⟨m1,m2,m3,m4,m5,-,-,m8⟩:=aN;obtain⟨va,au,rfl⟩:∃a c,vr=.slice a acc.length c:=by
     obtain⟨-,⟨rfl,hn⟩|⟨g,cp,ax,rfl,-⟩⟩:=m5
     ·exact⟨none,0,by rw[hn]⟩
     ·exact⟨_,_,rfl⟩
    have aP:=Hk m5;have M8:=Hk m8;clear aK m5 m8;have r0:=cK M8.out K Y0.out;have r1:=cK M8.out K Y1.out;have cr:=(M8.out.frozen (p:=⟨w.heap.size,0,none⟩) K).trans X0.out;have cu:=(M8.out.frozen (p:=⟨w.heap.size,1,none⟩) K).trans X1.out;have aa:w.heap.size<wr.heap.size:=by omega
    have a8:Below w.heap.size w wr:=bU.out.trans (M8.out.mono (by omega));have ai:=Hk a8;clear a8
    cases ay
    ·go_wp2_with (go_at_call 49;refine(wrong_any _ _ _).mono ?_;rintro e w3 ⟨rfl,hw,U,N,D⟩;obtain⟨y,I⟩:=QaQ D);have c0:=(y w.heap.size 0 aa).trans r0;have c1:=(y w.heap.size 1 aa).trans r1;clear y I;refine bodyPost_ret (v:=.tuple #[.agg #[.slice none 0 0,.slice none 0 0],.iface 100 (.pointer (some ⟨wr.heap.size+1,0,none⟩))]) (by simp[results,Tryz.results18,go_sem,c0,c1]) rfl ⟨?_,?_⟩
     ·exact((bel_then ai.out D).setCell (Nat.le_refl _) _).setCell (Nat.le_refl _) _
     ·rw[ac.out,O.out,QhE];exact Qft (p:=1+acc.length) hw (by omega) U (by rw[Int.natCast_add];exact N)
    ·by_cases hre:rest=[]
     ·subst hre;go_wp2;refine bodyPost_ret (v:=.tuple #[.agg #[.slice (some ⟨g1,0,none⟩) cs.length al,.slice va acc.length au],.nilIface]) (by simp[results,Tryz.results18,go_sem,r0,r1]) rfl ⟨?_,?_⟩
      ·exact(ai.out.setCell (Nat.le_refl _) _).setCell (Nat.le_refl _) _
      ·rw[ac.out,O.out,Qfv];obtain⟨-,-,-,-,m5,m6,m7,m8⟩:=HM.out;refine⟨_,_,rfl,?_,?_⟩
       ·refine Qbm (base:=w1.heap.size) ?_ bI.out;refine ownsRow_setCell_below (ownsRow_setCell_below (Qgp bv.out m8 (fun k hk=>?_)) (by exact hR) _) (by exact hR) _;simp only[Value.ownBlock,Option.some.injEq] at hk;omega
       ·exact QiN (tb:=E.heap.size) (ownsRow_setCell_below (ownsRow_setCell_below m5 (by show w.heap.size<_;omega) _) (by show w.heap.size<_;omega) _) (Qe4 (Qe4 m6 (by omega)) (by omega)) m7
     ·have cj:rest.isEmpty=false:=by cases rest<;>simp_all
      have cm:=Qfn rest [10];have aO:=Hk (Qjt rest hre);have aR:Hid (Calls Tryz.prog 47 #[.string ⟨rest.toArray⟩,.string ⟨#[10]⟩] wr fun e w'=>e=.returned (.tuple #[.string ⟨(Lib.cut rest [10]).1.toArray⟩,.string ⟨(Lib.cut rest [10]).2.1.toArray⟩,.bool (Lib.cut rest [10]).2.2])/\Below wr.heap.size wr w'):=Qfk ⟨rest.toArray⟩ ⟨#[10]⟩ wr (by simp[ByteArray.size];omega) (HE.out.below ai.out);go_wp2_with (first|(go_at_call 47;refine aR.out.mono ?_;rintro e w3 ⟨rfl,D⟩;obtain⟨y,I⟩:=QaQ D)|(go_at_call 50;fail));have bF:g1<w3.heap.size:=by have:=D.size;omega
      have a6:=Hk (Qfr ⟨(Lib.cut rest [10]).1.toArray⟩ g1 0 cs.length al cs w3 (by simp[ByteArray.size];omega) ((HE.out.below ai.out).below D) rfl (by omega) bF ((bk.out.below M8.out bb).below D (by omega)));refine a6.out.mono ?_;rintro e w4 ⟨ad,H⟩;clear a6 aR;obtain⟨J,az⟩:=QaQ ad;have aw:w.heap.size<w3.heap.size:=by have:=D.size;omega
      have aC:w.heap.size<w4.heap.size:=by have:=ad.size;omega
      have bi:E.heap.size<w3.heap.size:=by have:=D.size;omega
      have bj:E.heap.size<w4.heap.size:=by have:=ad.size;omega
      have b4:=Hk (bel_then (bel_then ai.out D) ad);rw[show(ByteArray.mk (Lib.cut rest [10]).1.toArray).data.toList=(Lib.cut rest [10]).1 from rfl] at H
      cases hrow:QaW cs (Lib.cut rest [10]).1 false with
      |none=>
       rw[hrow] at H;have br:e=_:=H;subst br;have ae:=Hk hrow;clear H hrow;go_wp2_with (go_at_call 49;refine(wrong_any _ _ _).mono ?_;rintro e w5 ⟨rfl,hw,U,N,am⟩;obtain⟨V,aL⟩:=QaQ am);have c0:=(V w.heap.size 0 aC).trans ((J _ _ aw).trans ((y _ _ aa).trans r0));have c1:=(V w.heap.size 1 aC).trans ((J _ _ aw).trans ((y _ _ aa).trans r1));clear y I J az V aL;refine bodyPost_ret (v:=.tuple #[.agg #[.slice none 0 0,.slice none 0 0],.iface 100 (.pointer (some ⟨w4.heap.size+1,0,none⟩))]) (by simp[results,Tryz.results18,go_sem,c0,c1]) rfl ⟨?_,?_⟩
       ·exact((bel_then b4.out am).setCell (Nat.le_refl _) _).setCell (Nat.le_refl _) _
       ·rw[ac.out,O.out,QhD hre ae.out];exact Qft (p:=1+acc.length) hw (by omega) U (by rw[Int.natCast_add];exact N)
      |some row=>
       rw[hrow] at H;obtain⟨u,rfl,hu,bO⟩:=H;obtain⟨ua,bu,bV⟩:∃a c,u=.slice a row.length c:=by
        obtain⟨-,⟨rfl,hn⟩|⟨g,cp,ax,rfl,-⟩⟩:=hu
        ·exact⟨none,0,by rw[hn]⟩
        ·exact⟨_,_,rfl⟩
       subst bV;have ae:=Hk hrow;have HU:=Hk hu;clear hrow hu
       by_cases h60':acc.length=60
       ·have bJ:((acc.length:Int)==60)=true:=by simp;omega
        go_wp2_with (go_at_call 49;refine(wrong_any _ _ _).mono ?_;rintro e w5 ⟨rfl,hw,U,N,am⟩;obtain⟨V,aL⟩:=QaQ am);have c0:=(V w.heap.size 0 aC).trans ((J _ _ aw).trans ((y _ _ aa).trans r0));have c1:=(V w.heap.size 1 aC).trans ((J _ _ aw).trans ((y _ _ aa).trans r1));clear y I J az V aL;refine bodyPost_ret (v:=.tuple #[.agg #[.slice none 0 0,.slice none 0 0],.iface 100 (.pointer (some ⟨w4.heap.size+1,0,none⟩))]) (by simp[results,Tryz.results18,go_sem,c0,c1]) rfl ⟨?_,?_⟩
        ·exact((bel_then b4.out am).setCell (Nat.le_refl _) _).setCell (Nat.le_refl _) _
        ·rw[ac.out,O.out,Qgq hre ae.out h60'];exact Qft (p:=1+acc.length) hw (by omega) U (by rw[h60'];exact N)
       ·have bJ:((acc.length:Int)==60)=false:=by simp;omega
        have aZ:=Hk (QcB (f:=f) hre ae.out h60');go_wp2_with (at_builtin;refine wpList_append_own _ rfl _ _ 52 rfl (E.heap.size+1) 84 i0 (.slice none 0 0) 1 24 Tryz.underlying52 hi bD bT bK rfl (by decide) _ _ _ rfl ((owns_below (owns_below aP.out D) ad).alloc _) ⟨w4.heap.size,0,none⟩ 1 1 [.slice ua row.length bu] rfl rfl ?c1 ?c2 ?c3 ?c4 ?c5 ?_)
        case c1=>
         intro j u hj
         match j,hj with
         |0,hj=>simp at hj;subst hj;simp[Addr.add]
        case c2=>intro u hu;simp at hu;subst hu;rfl
        case c3=>unfold maxLen;omega
        case c4=>omega
        case c5=>simp;omega
        ·intro v' w5 af M _;have bf:=Qjr HM.out D ad HU.out bO _ af M;obtain⟨cn,bY,rfl⟩:∃a c,v'=.slice a (acc.length+1) c:=by
          obtain⟨-,⟨rfl,hn⟩|⟨g,cp,ax,rfl,-⟩⟩:=af
          ·omega
          ·exact⟨_,_,rfl⟩
         have bX:=Hk bf;have a5:some E.heap.size≠(Value.slice va acc.length au).ownBlock:=fun e=>by have:=(aP.out.lt _ e.symm).1;omega
         have t1:w5.cell? ⟨E.heap.size,1,none⟩=some (.slice va acc.length au):=M.cell (a:=⟨E.heap.size,1,none⟩) (by rw[World.cell?_alloc_past _ _ _ bj];exact(J _ _ bi).trans ((y _ _ m1).trans m3)) a5;have t2:w5.frozen? ⟨E.heap.size,1,none⟩=false:=by
          rw[World.frozen?_of_block (w:=w4.alloc _) (w':=w5) (a:=⟨E.heap.size,1,none⟩) (M.block E.heap.size (by simp;omega) a5)];rw[World.frozen?_of_block (w:=w4) (w':=w4.alloc _) (a:=⟨E.heap.size,1,none⟩) (Below.heap_alloc _ _ _ bj)];exact(az _ _ bi).trans ((I _ _ m1).trans m4)
         clear bf af M y I J az;go_wp2;go_roundw
         case rel=>exact⟨(Lib.cut rest [10]).2.1,(Lib.cut rest [10]).2.2,acc++[row],_,_,f,rfl,rfl,by have:=aO.out;omega,by have:=aO.out;omega,by simp;omega,by rw[O.out,aZ.out],bX.out⟩
         case measure=>have:=aO.out;simpa [Qjs,ByteArray.size] using this
 ·rw[if_neg g] at ao;subst ao;have Z:=HX.out;rw[if_neg g] at Z;have ac:=Hk Z;clear HX Z;go_wp2_with (go_at_call 49;refine(wrong_any _ _ _).mono ?_;rintro e w3 ⟨rfl,hw,U,N,D⟩;obtain⟨y,I⟩:=QaQ D);have c0:=(y w.heap.size 0 (by omega)).trans ((ab _ _ hR).trans q0);have c1:=(y w.heap.size 1 (by omega)).trans ((ab _ _ hR).trans q1);clear y I ab aA;refine bodyPost_ret (v:=.tuple #[.agg #[.slice none 0 0,.slice none 0 0],.iface 100 (.pointer (some ⟨E.heap.size+1,0,none⟩))]) (by simp[results,Tryz.results18,go_sem,c0,c1]) rfl ⟨?_,?_⟩
  ·exact((bel_then (bel_then aS.out ag) D).setCell (Nat.le_refl _) _).setCell (Nat.le_refl _) _
  ·rw[ac.out];exact Qft hw (by omega) U N
end Go.Proofs.YtjlgejennghhlaaGreatDoor
