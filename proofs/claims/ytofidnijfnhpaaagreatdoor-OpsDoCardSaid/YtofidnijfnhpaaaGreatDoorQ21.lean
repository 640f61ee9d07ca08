import Derived.Maps.Own
import Derived.Maps.OwnOps
import Derived.Maps.Ext
import Derived.Test.YtofidnijfnhpaaaGreatDoorQ01
import Derived.Test.YtofidnijfnhpaaaGreatDoorQ10
set_option linter.unusedSimpArgs false
set_option linter.unusedVariables false
set_option linter.unusedSectionVars false
set_option maxRecDepth 1000000
set_option maxHeartbeats 16000000
namespace Go.Proofs.YtofidnijfnhpaaaGreatDoor
open Go.RowKit
def Qf9 (x:Vl):List UInt8:=QcL x.1 x.2.1 x.2.2.data.toList
def Qbb (r:List Vl):List UInt8:=Lib.join (r.map Qf9) [32]
def QcV (r:List Vl):List Value:=(r.map fun x=>(⟨(Qf9 x).toArray⟩:ByteArray)).map Value.string
theorem Qed {x:Vl} (h:rvB x=true):(Qf9 x).length<=1000:=by
 have h':=QbQ (show Qat x.1 x.2.1 x.2.2.data.toList=true from h)
 unfold Qf9 QcL
 split
 ·exact Nat.le_trans (Lib.itoa_length_le _ (by omega) (by omega)) (by decide)
 ·rw[List.length_cons,List.length_append]
  simp only[List.length_cons,List.length_nil]
  omega
theorem Tryz.infoS:(Tryz.prog.info? 9).map (fun i=>(i.zero,i.size,i.bytes))=some (some (.string ⟨#[]⟩),1,16):=by kernel_rfl
theorem QmG (s:ByteArray):∀u∈[Value.string s],u.oneCell'=true:=by intro u h;simp at h;subst h;rfl
theorem Qjs (b o c:Nat) (r:List Vl) (w:World) (hb:b<w.heap.size) (O:QaK w b o r) (h0:0<r.length) (h6:r.length<=100) (N:∀x∈r,rvB x=true) (M:Env w):
 Calls Tryz.prog 99 #[.slice (some ⟨b,o,none⟩) r.length c] w fun e w'=>e=.returned (.string ⟨(Qbb r).toArray⟩)/\Below w.heap.size w w':=by
 obtain⟨i0,hi,aq,ae,aj⟩:=info_parts Tryz.infoS
 have HV:=Hk (Ai O (Ai N M))
 clear O N M
 go_enter Tryz.func99,Tryz.ntmps99
 go_wp2
 go_loopw [3,8] (fun l i wr=>∃k:Nat,k<=r.length/\i=.int .i64 k/\wr.ownsRow w.heap.size 9 1 l k (QcV (r.take k))/\Below w.heap.size w wr) (fun _ i _=>r.length-(intOf i).toNat)
 case atStart=>exact⟨0,Nat.zero_le _,rfl,World.ownsRow_nil _ _ _ _,Below.refl _ _⟩
 case round=>
  obtain⟨k,hk,rfl,h,z⟩:=hrel
  obtain⟨la,lc,rfl⟩:=Qae h
  have T:=Hk (Ai h z)
  have aB:=z.size
  by_cases hlt:k<r.length
  ·obtain⟨O,N,M⟩:=HV.out
   obtain⟨e0,e1,e2⟩:=O k hlt
   have d0:=cK z hb e0
   have d1:=cK z hb e1
   have d2:=cK z hb e2
   have F:=QbQ (show Qat r[k].1 r[k].2.1 r[k].2.2.data.toList=true from N _ (List.getElem_mem hlt))
   have al:=Hk (fun W (hW:Below wr.heap.size wr W)=>Qja r[k].1 r[k].2.1 r[k].2.2 W (by have:=F.1;simp at this;omega) (by omega) (by omega) ((M.below z).below hW))
   have HT:=Hk (show QcV (r.take k)++[.string ⟨(Qf9 r[k]).toArray⟩]=QcV (r.take (k+1)) by rw[List.take_succ_eq_append_getElem hlt];unfold QcV;rw[List.map_append,List.map_append];rfl)
   rw[show Qf9 r[k]=QcL r[k].1 r[k].2.1 r[k].2.2.data.toList from rfl] at HT
   generalize r[k]=x at*
   clear h z O N M e0 e1 e2 F
   go_wp2_with (first|(go_at_call 122;refine(al.out _ (Qab _ _)).mono ?_;rintro e w1 ⟨rfl,A⟩)|(at_builtin;refine wpList_append_own _ rfl _ _ 22 rfl w.heap.size 9 i0 (.string ⟨#[]⟩) 1 16 Tryz.underlying22 hi aq ae aj rfl (by decide) _ _ _ rfl ((Qaf (T.out.1.alloc _) A).alloc _) ⟨w1.heap.size,0,none⟩ 1 1 [.string ⟨(QcL x.1 x.2.1 x.2.2.data.toList).toArray⟩] rfl rfl (QbG _ _ _ _ rfl) (QmG _) ?c3 ?c4 ?c5 ?_))
   case c3=>unfold maxLen;omega
   case c4=>omega
   case c5=>have:=A.size;simp at this⊢;omega
   intro v' w5 D I _
   have ak:=A.size
   simp at ak
   have K:Below w.heap.size w w5:=((Qaa (Qad T.out.2 _) A).alloc (by omega) _).grown I (by simp;omega) (fun q hq=>(T.out.1.lt q hq).1)
   rw[HT.out] at D
   have HF:=Hk (Ai D K)
   clear D I K
   go_wp2
   go_roundw
   case rel=>exact⟨k+1,by omega,by go_num,HF.out.1,HF.out.2⟩
   case measure=>simp[intOf];omega
  ·have ac:k=r.length:=by omega
   subst ac
   rw[List.take_of_length_le (Nat.le_refl _)] at h
   have E:=h
   obtain⟨-,⟨-,aD⟩|⟨g,aG,aC,U,aE,-,aa,hm,-,-⟩⟩:=h
   ·omega
   simp only[Value.slice.injEq,true_and] at U
   obtain⟨rfl,rfl⟩:=U
   have af:=(E.lt g rfl).2
   have B:(r.map fun x=>(⟨(Qf9 x).toArray⟩:ByteArray)).length=r.length:=by simp
   have J:(r.map fun x=>(⟨(Qf9 x).toArray⟩:ByteArray)).map (·.data.toList)=r.map Qf9:=by rw[List.map_map];exact List.map_congr_left fun x _=>rfl
   have V:=Qg5 (r.map Qf9) (by simpa using h6) (by
    intro x F
    rw[List.mem_map] at F
    obtain⟨y,hy,rfl⟩:=F
    exact Qed (HV.out.2.1 y hy))
   have Z:=Tryz.strings_Join g 0 lc (r.map fun x=>(⟨(Qf9 x).toArray⟩:ByteArray)) ⟨#[32]⟩ wr (fun j x F=>by
    have hj:j<r.length:=by have:=(List.getElem?_eq_some_iff.1 F).1;simpa using this
    rw[show 0+j=j by omega,E.cellAt j (by omega)]
    unfold QcV
    rw[List.getElem?_map,F];rfl) af (by rw[B];omega) (by rw[B];exact aa) (by rw[J];simpa using Nat.le_trans V (by decide))
   rw[B,J] at Z
   have HJ:=Hk Z
   clear Z E V J B
   go_wp2_with (go_at_call 123;refine HJ.out.mono ?_;rintro e w1 ⟨rfl,A⟩)
   go_ret
   exact⟨rfl,Qaa T.out.2 A⟩
end Go.Proofs.YtofidnijfnhpaaaGreatDoor
namespace Go.Proofs.YtofidnijfnhpaaaGreatDoor
open Go.RowKit Go.WideMaps Go.Maps
def QbV (acc:List (List UInt8)×List (List Vl)) (r:List Vl):List (List UInt8)×List (List Vl):=if acc.1.contains (Qbb r)=true then acc else(acc.1++[Qbb r],acc.2++[r])
def Qbs (rs:List (List Vl)):List (List UInt8)×List (List Vl):=rs.foldl QbV ([],[])
theorem Qgz (rs:List (List Vl)) (k:Nat) (h:k<rs.length):Qbs (rs.take (k+1))=QbV (Qbs (rs.take k)) rs[k]:=by
 rw[List.take_succ_eq_append_getElem h,Qbs,Qbs,List.foldl_append];rfl
theorem QfK (rs:List (List Vl)):(Qbs rs).2.length<=rs.length:=by
 have h:∀(l:List (List Vl)) j,(l.foldl QbV j).2.length<=j.2.length+l.length:=by
  intro l
  induction l with
  |nil=>intro j;simp
  |cons a l ih=>
   intro j
   have:=ih (QbV j a)
   have o:(QbV j a).2.length<=j.2.length+1:=by unfold QbV;split<;>simp
   simp only[List.foldl_cons,List.length_cons]
   omega
 simpa [Qbs] using h rs ([],[])
theorem Qi7:Keyed Tryz.prog 9:=string_keyed Tryz.underlying9
theorem Qhm (w:World):(zeroValue 3).run Tryz.prog w=.ok (.int .i64 0) w:=by kernel_rfl
theorem Qbn {w j:World} {b n:Nat} {D:DataW Unit} (h:w.ownsMap Tryz.prog 9 (plainElem Tryz.prog 3) b n D) (o:Below w.heap.size w j):j.ownsMap Tryz.prog 9 (plainElem Tryz.prog 3) b n D:=by
 have q:=h.lt
 obtain⟨A,c,y,z⟩:=h
 exact⟨A,c,(o.block b q).trans y,z⟩
def Met (D:DataW Unit) (k:Nat) (ts:List (List UInt8)):Prop:=∀t:List UInt8,∃c:Int,D.atKey (.string t) (.lit (.int .i64 0))=.lit (.int .i64 c)/\0<=c/\c<=(k:Int)/\(c=0↔ts.contains t=false)
theorem QiA (v:Value) (r:List Vl) (w:World) (z:Qbk w v r) (j:0<r.length) (A:r.length<=100) (D:∀x∈r,rvB x=true) (B:Env w):
 Calls Tryz.prog 99 #[v] w fun e w'=>e=.returned (.string ⟨(Qbb r).toArray⟩)/\Below w.heap.size w w':=by
 obtain⟨a,c,rfl,-,h⟩:=z
 rcases h with h|⟨b,o,rfl,y,q⟩
 ·rw[h] at j;simp at j
 ·exact Qjs b o c r w y q j A D B
theorem QgA {r:List Vl} (o:r.length<=100) (h:∀x∈r,rvB x=true):(Qbb r).length<=100100:=by
 refine Qg5 _ (by simpa using o) fun x hx=>?_
 obtain⟨y,j,rfl⟩:=List.mem_map.1 hx
 exact Qed (h y j)
theorem QgB {n:Int} (j:0<=n) (h:n<=1000):(Lit.int .i64 n).wf=true:=by
 have e:IntKind.i64.min= -9223372036854775808:=by decide
 simp[Lit.wf,IntKind.wrap,IntKind.signed,IntKind.bits]
 rw[e]
 omega
theorem Qdu {D:DataW Unit} {k:Nat} {ts o:List (List UInt8)} {j:List UInt8} {c:Int} (q:IsMap D) (h:Met D k ts) (K:D.atKey (.string j) (.lit (.int .i64 0))=.lit (.int .i64 c)) (I:0<=c) (F:c<=(k:Int)) (A:o.contains j=true) (E:∀t,t≠j->o.contains t=ts.contains t):Met (D.put (.string j) (.lit (.int .i64 (c+1)))) (k+1) o:=by
 intro t
 by_cases ht:t=j
 ·subst ht
  exact⟨c+1,atKey_put_same q (by trivial) _ _,by omega,by omega,by rw[A];constructor<;>intro h<;>first|omega|cases h⟩
 ·obtain⟨d,y,B,J,z⟩:=h t
  refine⟨d,?_,B,by omega,by rw[E t ht];exact z⟩
  rw[atKey_put_other (by simpa using ht)]
  exact y
theorem Qce {w:World} {B:Nat} {e:TypeId} {z m:Nat} {u:Value} {q:List Value} {b n:Nat} {D:DataW Unit} (h:w.ownsRow B e z u m q) (y:w.ownsMap Tryz.prog 9 (plainElem Tryz.prog 3) b n D):u.ownBlock=none\/u.ownBlock≠some b:=by
 cases hu:u.ownBlock with
 |none=>exact Or.inl rfl
 |some g=>
  refine Or.inr fun e=>?_
  injection e with e
  subst e
  obtain⟨I,c,o,-⟩:=y
  obtain⟨-,⟨rfl,-⟩|⟨J,A,E,rfl,F,j,-⟩⟩:=h
  ·simp[Value.ownBlock] at hu
  ·simp[Value.ownBlock] at hu
   subst hu
   rw[o] at j
   cases j
theorem Qac.keptMap {w o:World} {B b n:Nat} {D:DataW Unit} {us:List Value} {rs:List (List Vl)} (h:Qac w B us rs) (y:w.ownsMap Tryz.prog 9 (plainElem Tryz.prog 3) b n D) (q:w.grownBy o (some b)):Qac o B us rs:=
 ⟨h.1,fun j hj hj'=>⟨(h.2 j hj hj').1.kept q (Qce (h.2 j hj hj').1 y),(h.2 j hj hj').2⟩⟩
theorem QgC (v:Value) (rs:List (List Vl)) (us:List Value) (B:Nat) (w:World) (hv:w.ownsRow B 57 1 v rs.length us) (hH:Qac w B us rs) (h1:∀r∈rs,0<r.length/\r.length<=100/\∀x∈r,rvB x=true) (bn:rs.length<=100) (hE:Env w):
 Calls Tryz.prog 72 #[v] w fun e w'=>∃v1 E,e=.returned v1/\w'.ownsRow w.heap.size 57 1 v1 (Qbs rs).2.length E/\Qac w' B E (Qbs rs).2/\Below w.heap.size w w':=by
 obtain⟨i0,hi,a8,aS,aU⟩:=info_parts Tryz.infoRow
 have bk:=@run_makeMap Tryz.prog
 have HV:=Hk (Ai hv (Ai hH (Ai h1 hE)))
 obtain⟨va,bj,rfl⟩:=Qae hv
 clear hv hH h1 hE
 go_enter Tryz.func72,Tryz.ntmps72
 go_wp2
 go_loopw [4,11] (fun l i wr=>∃(k n:Nat) (D:DataW Unit) (E:List Value),k<=rs.length/\i=.int .i64 k/\n<=k/\wr.ownsMap Tryz.prog 9 (plainElem Tryz.prog 3) w.heap.size n D/\Met D k (Qbs (rs.take k)).1/\wr.ownsRow (w.heap.size+1) 57 1 l (Qbs (rs.take k)).2.length E/\Qac wr B E (Qbs (rs.take k)).2/\Below w.heap.size w wr) (fun _ i _=>rs.length-(intOf i).toNat)
 case atStart=>exact⟨0,0,.map [],[],Nat.zero_le _,rfl,Nat.le_refl _,World.ownsMap_made _ _ _ _,fun t=>⟨0,rfl,by omega,by omega,by simp[Qbs]⟩,World.ownsRow_nil _ _ _ _,Qac.nil _ _,Qab _ _⟩
 case round=>
  obtain⟨k,n,D,E,hk,rfl,bh,V,U,I,F,J⟩:=hrel
  obtain⟨la,lc,rfl⟩:=Qae I
  have bl:=J.size
  by_cases hlt:k<rs.length
  ·obtain⟨hv,hH,h1,hE⟩:=HV.out
   obtain⟨g,c,u,aN,aZ,aO,aw,aD⟩:=Qjb hv hH k hlt
   simp only[Value.slice.injEq,true_and] at aN
   obtain⟨rfl,rfl⟩:=aN
   have cu:=cK J aZ aO
   have huo':=Qaf aw J
   obtain⟨aP,T,aC⟩:=h1 _ (List.getElem_mem hlt)
   have HT:=Hk (QiA u rs[k] wr (Qb7 huo' aD) aP T aC (hE.below J))
   have a7:=QgA T aC
   have aa:keyOf Tryz.prog 9 (.string ⟨(Qbb rs[k]).toArray⟩)=some (.string (Qbb rs[k])):=keyOf_string_mk Tryz.underlying9 (by show(Qbb rs[k]).toArray.size<=_;rw[List.size_toArray];unfold maxLen;omega)
   obtain⟨ct,aL,aM,aH,K⟩:=U (Qbb rs[k])
   have ah:=Qgz rs k hlt
   obtain⟨ua,uc,rfl⟩:=Qae aw
   have aY:=QfK (rs.take k)
   rw[List.length_take] at aY
   have y:=Hk (Ai V (Ai U (Ai I (Ai F J))))
   have HU:=Hk (Ai huo' aD)
   have HA:=Hk aL
   have aI:=fun W (hW:Below wr.heap.size wr W)=>(Qbn y.out.1 hW).lookup_int Qi7 Tryz.underlying58 Tryz.underlying3 (Qhm W) aa
   have hD:IsMap D:=V.isMap
   generalize rs[k]=r at*
   generalize Qbs (rs.take k)=dk at*
   have ao:∀(c1:Int),D.atKey (.string (Qbb r)) (.lit (.int .i64 0))=.lit (.int .i64 c1)->c1=ct:=fun c1 h=>by rw[HA.out] at h;injection h with h;injection h with _ h;exact h.symm
   have av:=Hk ao
   have aQ:=Hk aI
   have aJ:=Hk hD
   have a9:(k:Int)<=100:=by omega
   clear ao aI hD aL U V I F J hv hH h1 hE aw huo' aD aO a7 aP T aC
   cases hs:dk.1.contains (Qbb r)
   ·obtain rfl:ct=0:=K.2 hs
    have M:=Hk (show Qbs (rs.take (k+1))=(dk.1++[Qbb r],dk.2++[r]) by rw[ah,QbV,if_neg (by rw[hs];decide)])
    have HS:=Hk hs
    clear ah hs K
    go_wp2_with (first|(go_at_call 99;refine HT.out.mono ?_;rintro e w1 ⟨rfl,o⟩;obtain⟨c1,ai,N,-⟩:=aQ.out w1 o;obtain rfl:=av.out c1 N;clear N)|(at_builtin;refine wpList_append_own _ rfl _ _ 34 rfl (w.heap.size+1) 57 i0 (.slice none 0 0) 1 24 Tryz.underlying34 hi a8 aS aU rfl (by decide) _ _ _ rfl ((Qaf y.out.2.2.1 o).alloc _) ⟨w1.heap.size,0,none⟩ 1 1 [.slice ua r.length uc] rfl rfl (QbG _ _ _ _ rfl) (QbZ _ _ _) ?c3 ?c4 ?c5 ?_))
    case c3=>unfold maxLen;omega
    case c4=>omega
    case c5=>have:=o.size;simp;omega
    intro v' w5 O A _
    have aT:=o.size
    have ag:=(Qaf y.out.2.2.1 o).alloc (.cells #[.slice ua r.length uc] 57)
    have am:=(Qbn y.out.1 o).alloc (.cells #[.slice ua r.length uc] 57)
    have ar:=am.kept A (by
     rcases Qce ag am with h|h
     ·rw[h];simp
     ·exact fun e=>h e.symm)
    have ay:Below w.heap.size w w5:=((Qaa y.out.2.2.2.2 o).alloc (by omega) _).grown A (by simp;omega) (fun q hq=>by have:=(y.out.2.2.1.lt q hq).1;omega)
    have aK:=((y.out.2.2.2.1.below o).below (Qab w1 (.cells #[.slice ua r.length uc] 57))).grow ag A
    have ax:=(Qaf HU.out.1 o).alloc (.cells #[.slice ua r.length uc] 57)
    have aG:=aK.snoc (ax.kept A (Qch (by decide) ax ag)) HU.out.2
    obtain⟨c5,ba,au,-⟩:=ar.lookup_int Qi7 Tryz.underlying58 Tryz.underlying3 (Qhm w5) aa
    obtain rfl:=av.out c5 au
    have HM:=Hk ar
    have ab:=Hk (Ai O (Ai aG ay))
    obtain⟨bm,bg,rfl⟩:=Qae O
    clear O A am ar ay aK ax aG ag au ai
    go_wp2_with (at_mapUpdate;refine wpList_mapUpdate_own _ rfl _ _ _ 58 rfl 9 3 Qi7 Tryz.underlying58 _ w.heap.size n D rfl HM.out (by unfold maxLen;omega) _ _ (.string (Qbb r)) rfl rfl aa _ [] (plainElem_int Tryz.underlying3 (QgB (by omega) (by omega))) ?_)
    intro w2 z j
    have ad:=ab.out.2.2.grown j (by have:=ab.out.2.2.size;omega) (fun q hq=>by cases hq;exact Nat.le_refl _)
    have ae:=ab.out.1.kept j (Qce ab.out.1 HM.out)
    have ac:=ab.out.2.1.keptMap HM.out j
    have Z:=Hk (Ai z (Ai ae (Ai ac ad)))
    have ap:=Hk (Qdu (o:=dk.1++[Qbb r]) aJ.out y.out.2.1 HA.out aM aH (by simp) (fun t ht=>by simp[ht]))
    clear z j ae ac ad
    go_wp2
    go_roundw
    case rel=>exact⟨k+1,n+1,_,E++[.slice ua r.length uc],by omega,by go_num,by omega,Z.out.1,by rw[M.out];exact ap.out,by rw[M.out];simpa using Z.out.2.1,by rw[M.out];exact Z.out.2.2.1,Z.out.2.2.2⟩
    case measure=>simp[intOf];omega
   ·have bi:(ct==0)=false:=by
     have:ct≠0:=fun h=>by rw[K.1 h] at hs;cases hs
     simpa using this
    have M:=Hk (show Qbs (rs.take (k+1))=dk by rw[ah,QbV,if_pos hs])
    have HS:=Hk hs
    clear ah hs K
    go_wp2_with (first|(go_at_call 99;refine HT.out.mono ?_;rintro e w1 ⟨rfl,o⟩;obtain⟨c1,ai,N,-⟩:=aQ.out w1 o;obtain rfl:=av.out c1 N;clear N;have HM:=Hk (Qbn y.out.1 o))|(at_mapUpdate;refine wpList_mapUpdate_own _ rfl _ _ _ 58 rfl 9 3 Qi7 Tryz.underlying58 _ w.heap.size n D rfl HM.out (by unfold maxLen;omega) _ _ (.string (Qbb r)) rfl rfl aa _ [] (plainElem_int Tryz.underlying3 (QgB (by omega) (by omega))) ?_))
    intro w2 z j
    have aT:=o.size
    have ad:=(Qaa y.out.2.2.2.2 o).grown j (by omega) (fun q hq=>by cases hq;exact Nat.le_refl _)
    have ae:=(Qaf y.out.2.2.1 o).kept j (Qce (Qaf y.out.2.2.1 o) HM.out)
    have ac:=(y.out.2.2.2.1.below o).keptMap HM.out j
    have Z:=Hk (Ai z (Ai ae (Ai ac ad)))
    have ap:=Hk (Qdu aJ.out y.out.2.1 HA.out aM aH HS.out (fun t _=>rfl))
    clear z j ae ac ad
    go_wp2
    go_roundw
    case rel=>exact⟨k+1,n+1,_,E,by omega,by go_num,by omega,Z.out.1,by rw[M.out];exact ap.out,by rw[M.out];exact Z.out.2.1,by rw[M.out];exact Z.out.2.2.1,Z.out.2.2.2⟩
    case measure=>simp[intOf];omega
  ·have aV:k=rs.length:=by omega
   subst aV
   simp only[List.take_length] at I F
   have y:=Hk (Ai I (Ai F J))
   simp only[List.take_length]
   clear I F J V U
   go_wp2
   go_ret
   exact⟨_,E,rfl,Qam (by omega) y.out.1,y.out.2.1,y.out.2.2⟩
theorem Qhn (z o tk tcap:Nat) (vc vr:Value) (cs:List Cl) (rs:List (List Vl)) (j:Jb) (w:World) (y:j.code=6) (ae:∀r∈rs,∀x∈r,rvB x=true) (hE:Env w) (aL:0<tk) (I:z<w.heap.size) (t0:w.cell? ⟨z,o,none⟩=some vc) (t1:w.cell? ⟨z,o+1,none⟩=some vr)
 (hc:Qav w vc cs) (hr:QaC w vr rs) (h1:1<=cs.length) (h6:cs.length<=100) (N:∀r∈rs,r.length=cs.length) (T:rs.length<=100):
 Calls Tryz.prog 40 #[.agg j.cells,.slice (some ⟨z,o,none⟩) tk tcap] w fun e w'=>∃K B,e=.returned (.tuple #[K,.slice none 0 0,.nilIface])/\w'.ownsRow w.heap.size 57 1 K (Qbs rs).2.length B/\Qac w' w.heap.size B (Qbs rs).2/\Below w.heap.size w w':=by
 have aN:=mkF
 have ad:=Hk (fun W (hW:Below w.heap.size w W)=>Qba vr rs cs.length W (hr.below hW) N h1 h6 T)
 have V:=Hk (fun v us W (hW:Below w.heap.size w W) F O=>QgC v rs us (w.heap.size+1) W F O (fun r hr'=>⟨by have:=N r hr';omega,by have:=N r hr';omega,ae r hr'⟩) T (hE.below hW))
 have htk':(0:Int)<(tk:Int):=by omega
 clear N ae hE
 obtain⟨va,ac,rfl,-⟩:=hc
 obtain⟨ra,al,rfl,-⟩:=hr
 have U:Qaz (w.alloc (.cells j.cells 28)) w.heap.size j:=fun k v hk=>by rw[World.cell?_alloc_at _ _ _ _ rfl];exact hk
 have A:=Hk U
 clear U
 unfold Jb.cells at A⊢
 rw[y] at A⊢
 have ap:=Hk y
 clear y
 all_goals
  go_enter Tryz.func40,Tryz.ntmps40
  go_wp2_with fail
  go_cut [7,8] (fun p v wx=>∃(M:Nat) (us:List Value),p=.pointer (some ⟨M,0,none⟩)/\wx.cell? ⟨M,0,none⟩=some (.slice va cs.length ac)/\M<wx.heap.size/\wx.ownsRow (w.heap.size+1) 57 1 v rs.length us/\Qac wx (w.heap.size+1) us rs/\Qaz wx w.heap.size j/\Below w.heap.size w wx)
  case first=>
   go_region_held3 (fun w'=>w'.cell? ⟨z,o,none⟩=some (.slice va cs.length ac)/\w'.cell? ⟨z,o+1,none⟩=some (.slice ra rs.length al))
    (first|(go_keep;done)|exact⟨(World.cell?_setCell_other _ _ _ _ (by intro e;simp at e;try omega)).trans k0,(World.cell?_setCell_other _ _ _ _ (by intro e;simp at e;try omega)).trans k1⟩)
    (first|(go_at_call 63;refine(ad.out _ (by first|exact(Qab _ _).drew|exact(Qad (Qab _ _) _).drew)).mono ?_;rintro e J ⟨K,us,rfl,Z,aa,q⟩;have h:=Qaa (show Below w.heap.size w _ from(by first|exact(Qab _ _).drew|exact(Qad (Qab _ _) _).drew)) q;have k0:=cK h I t0;have k1:=cK h I t1;have aM:z<J.heap.size:=Nat.lt_of_lt_of_le I h.size;(try(have kb:=(q.cell (p:=⟨w.heap.size+1,0,none⟩) (by simp)).trans (show _=some (Value.slice none 0 0) by simp);have kf:=(q.frozen (p:=⟨w.heap.size+1,0,none⟩) (by simp)).trans (show _=false by simp);have kz:w.heap.size+1<J.heap.size:=by(have:=q.size;simp at this;omega)))))
   all_goals go_wp2_with fail
   all_goals go_meet
   ·have E:Qaz J w.heap.size j:=fun k v hk=>(q.cell (p:=⟨w.heap.size,k,none⟩) (by simp)).trans (by simpa using A.out k v hk)
    exact⟨J.heap.size,us,rfl,by simp,by simp,(Qam (by simp) Z).alloc _,(aa.mono (by simp)).below (Qab _ _),E.below (Qab _ _) (by have:=q.size;simp at this;omega),Qad h _⟩
   ·have E:Qaz J w.heap.size j:=fun k v hk=>(q.cell (p:=⟨w.heap.size,k,none⟩) (by simp;omega)).trans (by simpa using A.out k v hk)
    exact⟨w.heap.size+1,us,rfl,World.cell?_setCell_same _ _ _ kb,by simpa using kz,Qam (by simp) (ownsRow_setCell_below Z (by simp) _),(Qac.set aa (by simp)).mono (by simp),fun k v hk=>(World.cell?_setCell_other _ _ _ _ (by intro e;simp at e)).trans (E k v hk),h.setCell (by show w.heap.size<=w.heap.size+1;omega) _⟩
  case rest=>
   obtain⟨M,us,rfl,am,aJ,F,O,hJ,D⟩:=hcut
   have ar:=D.size
   have aq:=Hk (V.out u8 us wc D F O)
   have j1:wc.cell? ⟨w.heap.size,1,none⟩=some (.int .i64 6):=by have:=hJ 1 (.int .i64 j.code) rfl;rw[ap.out] at this;exact this
   have aO:=hJ.lt
   have HB:=Hk D
   obtain⟨xa,xc,rfl⟩:=Qae F
   clear D F O hJ am V ad A t0 t1
   go_wp2_with (go_at_call 72;refine aq.out.mono ?_;rintro e w5 ⟨K,B,rfl,o1,o2,aw⟩)
   go_ret3
   exact⟨_,B,rfl,Qam ar o1,o2.mono (by omega),Qaa HB.out aw⟩
theorem QiB (I:Option Addr) (q A y z:Nat) (B:Value) (j:Jb) (w:World) (h:j.code=6) (D:0<y) (E:q<w.heap.size) (F:w.cell? ⟨q,A,none⟩=some B):
 Calls Tryz.prog 26 #[.agg j.cells,.slice (some ⟨q,A,none⟩) y z] w fun e w'=>e=.returned .nilIface/\Below w.heap.size w w':=by
 obtain⟨code,o⟩:∃k,j.code=k:=⟨_,rfl⟩
 unfold Jb.cells
 rw[o] at h⊢
 clear o
 subst h
 have htk':(0:Int)<(y:Int):=by omega
 go_enter Tryz.func26,Tryz.ntmps26
 go_wp2
 go_ret
 exact⟨rfl,Qab _ _⟩
theorem QiC {cs:List Cl} {rs:List (List Vl)} (h:Qan cs rs=true):∀r∈rs,∀x∈r,rvB x=true:=by
 intro r o x q
 obtain⟨B,E,y⟩:=Qbh h
 obtain⟨D,F,A,z⟩:=Qar h
 obtain⟨i,j,rfl⟩:=List.mem_iff_getElem.1 q
 exact(Qjj (y r o) i j (by rw[<-z r o];exact j)).2
end Go.Proofs.YtofidnijfnhpaaaGreatDoor
