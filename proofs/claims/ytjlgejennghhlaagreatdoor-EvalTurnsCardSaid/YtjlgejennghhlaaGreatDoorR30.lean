import Derived.Test.YtjlgejennghhlaaGreatDoorR01
import Derived.Test.YtjlgejennghhlaaGreatDoorR14
import Derived.Test.YtjlgejennghhlaaGreatDoorR20
import Derived.Test.YtjlgejennghhlaaGreatDoorR29
import Derived.Test.YtjlgejennghhlaaGreatDoorR19
set_option linter.unusedSimpArgs false
set_option linter.unusedVariables false
set_option linter.unusedSectionVars false
set_option maxRecDepth 1000000
set_option maxHeartbeats 16000000
namespace Go.Proofs.YtjlgejennghhlaaGreatDoor
open Go.RowKit
def Qml (x:Vl):List UInt8:=Qb3 x.1 x.2.1 x.2.2.data.toList
def QdO (r:List Vl):List UInt8:=Lib.join (r.map Qml) [32]
def Qdi (r:List Vl):List Value:=(r.map fun x=>(⟨(Qml x).toArray⟩:ByteArray)).map Value.string
theorem QjI {x:Vl} (h:rvB x=true):(Qml x).length<=1000:=by
 have h':=Qa4 (show Qao x.1 x.2.1 x.2.2.data.toList=true from h);unfold Qml Qb3;split
 ·exact Nat.le_trans (Lib.itoa_length_le _ (by omega) (by omega)) (by decide)
 ·rw[List.length_cons,List.length_append];simp only[List.length_cons,List.length_nil];omega
theorem Tryz.infoS:(Tryz.prog.info? 9).map (fun i=>(i.zero,i.size,i.bytes))=some (some (.string ⟨#[]⟩),1,16):=by kernel_rfl
theorem one1t (s:ByteArray):∀u∈[Value.string s],u.oneCell'=true:=by intro u h;simp at h;subst h;rfl
theorem Qmm (b o c:Nat) (r:List Vl) (w:World) (hb:b<w.heap.size) (O:QaS w b o r) (h0:0<r.length) (h6:r.length<=100) (V:∀x∈r,rvB x=true) (N:Env w):
 Calls Tryz.prog 177 #[.slice (some ⟨b,o,none⟩) r.length c] w fun e w'=>e=.returned (.string ⟨(QdO r).toArray⟩)/\Below w.heap.size w w':=by
 obtain⟨i0,hi,ah,ak,ao⟩:=info_parts Tryz.infoS;have HV:=Hk (Ai O (Ai V N));clear O V N;go_enter Tryz.func177,Tryz.ntmps177;go_wp2;go_loopw [3,8] (fun l i wr=>∃k:Nat,k<=r.length/\i=.int .i64 k/\wr.ownsRow w.heap.size 9 1 l k (Qdi (r.take k))/\Below w.heap.size w wr) (fun _ i _=>r.length-(intOf i).toNat)
 case atStart=>exact⟨0,Nat.zero_le _,rfl,World.ownsRow_nil _ _ _ _,Below.refl _ _⟩
 case round=>
  obtain⟨k,hk,rfl,h,D⟩:=hrel;obtain⟨la,lc,rfl⟩:=own_slice h;have Z:=Hk (Ai h D);have aD:=D.size
  by_cases hlt:k<r.length
  ·obtain⟨O,V,N⟩:=HV.out;obtain⟨e0,e1,e2⟩:=O k hlt;have d0:=cK D hb e0;have d1:=cK D hb e1;have d2:=cK D hb e2;have J:=Qa4 (show Qao r[k].1 r[k].2.1 r[k].2.2.data.toList=true from V _ (List.getElem_mem hlt));have aq:=Hk (fun W (hW:Below wr.heap.size wr W)=>Qfj r[k].1 r[k].2.1 r[k].2.2 W (by have:=J.1;simp at this;omega) (by omega) (by omega) ((N.below D).below hW));have HT:=Hk (show Qdi (r.take k)++[.string ⟨(Qml r[k]).toArray⟩]=Qdi (r.take (k+1)) by rw[List.take_succ_eq_append_getElem hlt];unfold Qdi;rw[List.map_append,List.map_append];rfl);rw[show Qml r[k]=Qb3 r[k].1 r[k].2.1 r[k].2.2.data.toList from rfl] at HT;generalize r[k]=x at*;clear h D O V N e0 e1 e2 J;go_wp2_with (first|(go_at_call 122;refine(aq.out _ (Qaa _ _)).mono ?_;rintro e w1 ⟨rfl,E⟩)|(at_builtin;refine wpList_append_own _ rfl _ _ 44 rfl w.heap.size 9 i0 (.string ⟨#[]⟩) 1 16 Tryz.underlying44 hi ah ak ao rfl (by decide) _ _ _ rfl ((owns_below (Z.out.1.alloc _) E).alloc _) ⟨w1.heap.size,0,none⟩ 1 1 [.string ⟨(Qb3 x.1 x.2.1 x.2.2.data.toList).toArray⟩] rfl rfl (news1 _ _ _ _ rfl) (one1t _) ?c3 ?c4 ?c5 ?_))
   case c3=>unfold maxLen;omega
   case c4=>omega
   case c5=>have:=E.size;simp at this⊢;omega
   intro v' w5 H K _;have ap:=E.size;simp at ap;have M:Below w.heap.size w w5:=((bel_then (bel_box Z.out.2 _) E).alloc (by omega) _).grown K (by simp;omega) (fun q hq=>(Z.out.1.lt q hq).1);rw[HT.out] at H;have HF:=Hk (Ai H M);clear H K M;go_wp2;go_roundw
   case rel=>exact⟨k+1,by omega,by go_num,HF.out.1,HF.out.2⟩
   case measure=>simp[intOf];omega
  ·have am:k=r.length:=by omega
   subst am;rw[List.take_of_length_le (Nat.le_refl _)] at h;have I:=h;obtain⟨-,⟨-,aG⟩|⟨g,aE,aF,aa,aH,-,ad,hm,-,-⟩⟩:=h
   ·omega
   simp only[Value.slice.injEq,true_and] at aa;obtain⟨rfl,rfl⟩:=aa;have ar:=(I.lt g rfl).2;have F:(r.map fun x=>(⟨(Qml x).toArray⟩:ByteArray)).length=r.length:=by simp
   have U:(r.map fun x=>(⟨(Qml x).toArray⟩:ByteArray)).map (·.data.toList)=r.map Qml:=by rw[List.map_map];exact List.map_congr_left fun x _=>rfl
   have ab:=QlJ (r.map Qml) (by simpa using h6) (by
    intro x J;rw[List.mem_map] at J;obtain⟨y,hy,rfl⟩:=J;exact QjI (HV.out.2.1 y hy))
   have hJ:=Tryz.strings_Join g 0 lc (r.map fun x=>(⟨(Qml x).toArray⟩:ByteArray)) ⟨#[32]⟩ wr (fun j x J=>by
    have hj:j<r.length:=by have:=(List.getElem?_eq_some_iff.1 J).1;simpa using this
    rw[show 0+j=j by omega,I.cellAt j (by omega)];unfold Qdi;rw[List.getElem?_map,J];rfl) ar (by rw[F];omega) (by rw[F];exact ad) (by rw[U];simpa using Nat.le_trans ab (by decide))
   rw[F,U] at hJ;have HJ:=Hk hJ;clear hJ I ab U F;go_wp2_with (go_at_call 194;refine HJ.out.mono ?_;rintro e w1 ⟨rfl,E⟩);go_ret;exact⟨rfl,bel_then Z.out.2 E⟩
end Go.Proofs.YtjlgejennghhlaaGreatDoor
namespace Go.Proofs.YtjlgejennghhlaaGreatDoor.Fw
open Go.RowKit
theorem Tryz.infoTok:(Tryz.prog.info? 143).map (fun i=>(i.zero,i.size,i.bytes))=some (some (.agg #[.int .i64 0,.string ⟨#[]⟩,.int .i64 0]),3,32):=by kernel_rfl
def tkV (ts:List Tk):List Value:=ts.flatMap fun t=>[.int .i64 (t.1:Nat),.string (ba t.2.1),.int .i64 (t.2.2:Nat)]
theorem QmR (ts:List Tk) (t:Tk):tkV (ts++[t])=tkV ts++[.int .i64 (t.1:Nat),.string (ba t.2.1),.int .i64 (t.2.2:Nat)]:=by simp[tkV]
def Qr2 (r:Except (Int×Nat) (List Tk)) (e:Ending) (w':World) (B:Nat):Prop:=
 (∃ts v,r=.ok ts/\e=.returned v/\w'.ownsRow B 143 3 v ts.length (tkV ts))\/(∃er,r=.error er/\Thr e w' B er)
theorem Qox (r:By) (n:Nat) (h:r.findIdx? (·==39)=some n):n<r.length:=(List.findIdx?_eq_some_iff_getElem.1 h).1
theorem Qib {r:By} {k n:Nat} (h:Qa1 r=some (k,n)):1<=n/\n<=r.length/\k<=3:=by
 cases r with
 |nil=>simp[Qa1] at h
 |cons c r=>
  simp only[Qa1] at h;split at h
  ·rename_i F
   simp only[Option.some.injEq,Prod.mk.injEq] at h;obtain⟨rfl,rfl⟩:=h;refine⟨?_,QdR _ _,by omega⟩;unfold runL;rw[List.takeWhile_cons_of_pos (by simp[lowdigB,F])];simp
  ·split at h
   ·rename_i D
    simp only[Option.some.injEq,Prod.mk.injEq] at h;obtain⟨rfl,rfl⟩:=h;refine⟨?_,QdR _ _,by omega⟩;unfold runL;rw[List.takeWhile_cons_of_pos D];simp
   ·split at h
    ·cases hf:r.findIdx? (·==39) with
     |none=>rw[hf] at h;simp at h
     |some m=>
      rw[hf] at h;simp only[Option.map_some,Option.some.injEq,Prod.mk.injEq] at h;obtain⟨rfl,rfl⟩:=h;have:=Qox r m hf;simp;omega
    ·cases hf:QaD.find? fun m=>m.isPrefixOf (c::r) with
     |none=>rw[hf] at h;simp at h
     |some m=>
      rw[hf] at h;simp only[Option.map_some,Option.some.injEq,Prod.mk.injEq] at h;obtain⟨rfl,rfl⟩:=h;have y:=List.find?_some hf;have E:=List.mem_of_find?_eq_some hf;have H:∀x∈QaD,1<=x.length:=by decide
      rw[List.isPrefixOf_iff_prefix] at y;exact⟨H m E,y.length_le,by omega⟩
theorem Qej {f:Nat} {l:By} {p n:Nat}:QfQ (f+1) l p n=(if l.drop (runL blankB l)=[] then .ok []
 else match Qa1 (l.drop (runL blankB l)) with
  |none=>.error (3,p+runL blankB l)
  |some (k,len)=>
   if n=400 then .error (4,p+runL blankB l)
   else match QfQ f ((l.drop (runL blankB l)).drop len) (p+runL blankB l+len) (n+1) with
    |.error e=>.error e
    |.ok ts=>.ok ((k,(l.drop (runL blankB l)).take len,p+runL blankB l)::ts)):=rfl
def QeA (l:By) (acc:List Tk) (p f:Nat):Except (Int×Nat) (List Tk):=match QfQ f (l.drop p) p acc.length with |.error e=>.error e|.ok ts=>.ok (acc++ts++[(4,[],l.length)])
theorem QkY (l:By):Qb2 l=QeA l [] 0 (l.length+1):=by
 unfold Qb2 QeA;simp only[List.drop_zero,List.length_nil]
 cases QfQ (l.length+1) l 0 0<;>rfl
theorem Qoy {l:By} {acc:List Tk} {p f:Nat} (h:l.length<=p+runL blankB (l.drop p)):QeA l acc p (f+1)=.ok (acc++[(4,[],l.length)]):=by
 unfold QeA;rw[Qej,if_pos (by rw[List.drop_drop,List.drop_eq_nil_iff];omega)];simp
theorem QmS {l:By} {acc:List Tk} {p f:Nat} (h:p+runL blankB (l.drop p)<l.length) (y:Qa1 (l.drop (p+runL blankB (l.drop p)))=none):QeA l acc p (f+1)=.error (3,p+runL blankB (l.drop p)):=by
 unfold QeA;rw[Qej,if_neg (by rw[List.drop_drop,List.drop_eq_nil_iff];omega),List.drop_drop,y]
theorem QmT {l:By} {acc:List Tk} {p f k n:Nat} (h:p+runL blankB (l.drop p)<l.length) (D:Qa1 (l.drop (p+runL blankB (l.drop p)))=some (k,n)) (y:acc.length=400):QeA l acc p (f+1)=.error (4,p+runL blankB (l.drop p)):=by
 unfold QeA;rw[Qej,if_neg (by rw[List.drop_drop,List.drop_eq_nil_iff];omega),List.drop_drop,D];simp[y]
theorem QmU {l:By} {acc:List Tk} {p f k n:Nat} (h:p+runL blankB (l.drop p)<l.length) (D:Qa1 (l.drop (p+runL blankB (l.drop p)))=some (k,n)) (y:acc.length≠400):QeA l acc p (f+1)=QeA l (acc++[(k,(l.drop (p+runL blankB (l.drop p))).take n,p+runL blankB (l.drop p))]) (p+runL blankB (l.drop p)+n) f:=by
 unfold QeA;rw[Qej,if_neg (by rw[List.drop_drop,List.drop_eq_nil_iff];omega),List.drop_drop,D];simp only[y,if_false,List.drop_drop,List.length_append,List.length_cons,List.length_nil,Nat.zero_add]
 cases QfQ f (l.drop (p+runL blankB (l.drop p)+n)) (p+runL blankB (l.drop p)+n) (acc.length+1) with
 |error e=>rfl
 |ok ts=>simp
theorem Qic (w:World) (l:List Value) (t:TypeId) (H:Nat) (D:w.heap.size=H):∀j u,l[j]? =some u->(w.alloc (.cells l.toArray t)).cell? ((⟨H,0,none⟩:Addr).add j)=some u:=by
 intro j u h;have y:=Box.new w l t H D.symm;have:=y.cell j h;rw[show((⟨H,0,none⟩:Addr).add j)=⟨H,j,none⟩ by simp only[Addr.add,Nat.zero_add];split<;>simp_all];exact this
theorem QkZ {w w':World} {k:Nat} {D:List Value} {row:Option Nat} (h:Box w k D) (E:w.grownBy w' row) (y:row≠some k):Box w' k D:=h.block (E.block k h.lt (fun e=>y e.symm))
theorem owns_below {w w':World} {base:Nat} {e:TypeId} {size:Nat} {v:Value} {n:Nat} {xs:List Value} (h:w.ownsRow base e size v n xs) (y:Below w.heap.size w w'):w'.ownsRow base e size v n xs:=
 h.kept (grown_below y none) (by cases v.ownBlock<;>simp)
theorem Qk0 (l:By) (w:World) (hl:l.length<=1000000) (hE:FEnv w):
 Calls Tryz.prog 45 #[.string (ba l)] w fun e w'=>Qr2 (Qb2 l) e w' w.heap.size/\Below w.heap.size w w':=by
 obtain⟨i0,hi,ah,ak,aj⟩:=info_parts Tryz.infoTok;have a0:(ba l).size=l.length:=Qdk l;have HE:=Hk hE;have HL:=Hk hl;clear hE;go_enter Tryz.func45,Tryz.ntmps45;go_wp2_with (go_at_call 76;fail);refine(Qh9 l w HL.out).mono ?_;rintro e w1 ⟨rfl,ae⟩;have hw1':=ae.symm;clear ae;subst hw1';have aH:=QdR blankB l;have ax:=Hk (QkY l);go_wp2_with fail
 go_loopg [4,5] l.length (fun g vl vi wr=>∃(acc:List Tk) (p q n:Nat),vi=.int .i64 (q:Nat)/\q<=l.length/\p<=q/\l.length-p<=g/\n<=400/\wr.ownsRow w.heap.size 143 3 vl n (tkV acc)/\Aside (n=acc.length/\q=p+runL blankB (l.drop p)/\Below w.heap.size w wr/\∃f,l.length-p<=f/\Qb2 l=QeA l acc p (f+1)))
 case atStart=>exact⟨[],0,runL blankB l,0,rfl,aH,by omega,by omega,by omega,World.ownsRow_nil _ _ _ _,rfl,by simp,Below.refl _ _,l.length,by omega,ax.out⟩
 case round=>
  obtain⟨acc,p,q,n,rfl,hq,a7,hg,hn,J,h⟩:=hrel;obtain⟨la,lc,rfl⟩:=own_slice J;have HO:=Hk J;clear J;obtain⟨f,hf,af⟩:=h.out.2.2.2;have K:=Hk af;clear af
  by_cases hlt:q<l.length
  ·have ar:(q:Int)<(l.length:Int):=by omega
   have aM:=Hk (QmQ l q wr hlt HL.out (HE.out.blocks h.out.2.2.1.size (fun g hg'=>h.out.2.2.1.block g (HE.out.size g hg'))));go_wp2_with (go_at_call 77;fail);refine aM.out.mono ?_;rintro e w2 ⟨⟨F,m,E,rfl⟩|⟨E,al⟩,I⟩
   ·obtain⟨bb,aA,a5⟩:=Qib E;have hm2':m<=l.length-q:=by simpa using aA
    have B2:=Hk (bel_then h.out.2.2.1 I);have O2:=Hk (owns_below HO.out I);have a1:=I.size;have aI:=h.out.2.2.1.size;have M:((l.drop q).take m).length=m:=by simp;omega
    have N:=Hk h.out.2.1
    by_cases ha:n=400
    ·have aG:((n:Int)==400)=true:=by simp[ha]
     have Z:=Hk (show Qb2 l=.error (4,q) by
      have V:=QmT (f:=f) (acc:=acc) (p:=p) (l:=l) (k:=F) (n:=m) (by rw[<-N.out];exact hlt) (by rw[<-N.out];exact E) (by rw[<-h.out.1];exact ha);rw[K.out,V,<-N.out])
     clear E ha I;generalize (l.drop q).take m=H at*;go_wp2_with (go_at_call 78;refine(wrong_any _ _ _).mono ?_;rintro e a4 ⟨rfl,rfl⟩);exact⟨rfl,Or.inr ⟨_,Z.out,QmP _ _ _ (by simp;omega) (by simp)⟩,bel_box (bel_box B2.out _) _⟩
    ·have aG:((n:Int)==400)=false:=by simp;omega
     have ai:=Hk (show Qb2 l=QeA l (acc++[(F,(l.drop q).take m,q)]) (q+m) f by
      have V:=QmU (f:=f) (acc:=acc) (p:=p) (l:=l) (k:=F) (n:=m) (by rw[<-N.out];exact hlt) (by rw[<-N.out];exact E) (by rw[<-h.out.1];exact ha);rw[K.out,V,<-N.out])
     have aO:n+1<=400:=by omega
     have aL:=Hk M;obtain⟨H,ad⟩:∃x,(l.drop q).take m=x:=⟨_,rfl⟩;rw[ad] at ai M⊢;clear E ha I ad aL;have ay:q+m<=l.length:=by omega
     have ag:(ba l).extract (q+m) l.length=ba (l.drop (q+m)):=QmN l (q+m) ay;have aE:=Hk ag;clear ag;go_wp2_with (at_builtin;refine wpList_append_own _ rfl _ _ 102 rfl w.heap.size 143 i0 (.agg #[.int .i64 0,.string ⟨#[]⟩,.int .i64 0]) 3 32 Tryz.underlying102 hi ah ak aj rfl (by decide) _ _ _ rfl ((O2.out.alloc _).alloc _) ⟨w2.heap.size+1,0,none⟩ 1 1 [.int .i64 (F:Nat),.string (ba H),.int .i64 (q:Nat)] rfl rfl (Qic _ [.int .i64 (F:Nat),.string (ba H),.int .i64 (q:Nat)] _ _ (by simp)) (by simp[Value.oneCell']) ?c3 ?c4 ?c5 ?_)
     case c3=>unfold maxLen;omega
     case c4=>omega
     case c5=>simp;omega
     intro v' w5 D y _;have X5:=Hk (QkZ ((Box.new w2 [.int .i64 (F:Nat),.string (ba H),.int .i64 (q:Nat)] 143 _ rfl).below (Qaa _ (.cells #[.int .i64 (F:Nat),.string (ba H),.int .i64 (q:Nat)] 143))) y (by intro e;have:=O2.out.lt _ e;omega));have B5:=Hk ((bel_box (bel_box B2.out (.cells #[.int .i64 (F:Nat),.string (ba H),.int .i64 (q:Nat)] 143)) (.cells #[.int .i64 (F:Nat),.string (ba H),.int .i64 (q:Nat)] 143)).grown y (by first|omega|(simp;omega)) (fun k hk=>(O2.out.lt k hk).1));have O5:=Hk (show w5.ownsRow w.heap.size 143 3 v' (n+1) (tkV (acc++[(F,H,q)])) by rw[QmR];exact D);have c1:=X5.out.cell 1 rfl;have a8:=X5.out.lt;have a2:=Hk M;have aZ:(H.length:Int)=(m:Int):=by omega
     have a9:IntKind.i64.wrap ((q:Int)+(m:Int))=((q+m:Nat):Int):=by rw[IntKind.wrap_i64];omega
     have a6:((q+m:Nat):Int)<=(l.length:Int):=by omega
     clear D y M;go_wp2_with (go_at_call 76;fail);rw[aE.out];have U:(l.drop (q+m)).length=l.length-(q+m):=List.length_drop;refine(Qh9 (l.drop (q+m)) w5 (by rw[U];have:=HL.out;omega)).mono ?_;rintro e w6 ⟨rfl,ac⟩;have hw6':=ac.symm;clear ac;subst hw6';have ab:=QdR blankB (l.drop (q+m));rw[U] at ab;obtain⟨rn,O⟩:∃x,runL blankB (l.drop (q+m))=x:=⟨_,rfl⟩;have aw:=Hk O;rw[O] at ab⊢;have a3:IntKind.i64.wrap ((q:Int)+(m:Int)+(rn:Int))=(q:Int)+(m:Int)+(rn:Int):=by rw[IntKind.wrap_i64];omega
     obtain⟨f',aD⟩:∃f',f=f'+1:=⟨f-1,by omega⟩;subst aD;clear O U;go_wp2
     go_roundg (l.length-(q+m))
     case measure=>omega
     case rel=>exact⟨acc++[(F,H,q)],q+m,q+m+rn,n+1,by first|go_num|(congr 1),by omega,by omega,Nat.le_refl _,aO,O5.out,by simp[h.out.1],by rw[aw.out],B5.out,f',by omega,ai.out⟩
   ·obtain⟨b',rfl,t0,t1,tB,tl⟩:=al;have Z:=Hk (show Qb2 l=.error (3,q) by
     have V:=QmS (f:=f) (acc:=acc) (p:=p) (l:=l) (by rw[<-h.out.2.1];exact hlt) (by rw[<-h.out.2.1];exact E);rw[K.out,V,<-h.out.2.1])
    go_wp2;exact⟨rfl,Or.inr ⟨_,Z.out,b',rfl,t0,t1,Nat.le_trans h.out.2.2.1.size tB,tl⟩,bel_then h.out.2.2.1 I⟩
  ·have ar:¬((q:Int)<(l.length:Int)):=by omega
   have Z:=Hk (show Qb2 l=.ok (acc++[(4,[],l.length)]) by rw[K.out];exact Qoy (by rw[<-h.out.2.1];omega));have aI:=h.out.2.2.1.size;go_wp2_with (at_builtin;refine wpList_append_own _ rfl _ _ 102 rfl w.heap.size 143 i0 (.agg #[.int .i64 0,.string ⟨#[]⟩,.int .i64 0]) 3 32 Tryz.underlying102 hi ah ak aj rfl (by decide) _ _ _ rfl (HO.out.alloc _) ⟨wr.heap.size,0,none⟩ 1 1 [.int .i64 4,.string ⟨#[]⟩,.int .i64 (l.length:Nat)] rfl rfl (Qic _ [.int .i64 4,.string ⟨#[]⟩,.int .i64 (l.length:Nat)] _ _ (by simp)) (by simp[Value.oneCell']) ?c3 ?c4 ?c5 ?_)
   case c3=>unfold maxLen;omega
   case c4=>omega
   case c5=>first|omega|(simp;omega)
   intro v' w5 D y _;have aN:=Hk ((bel_box h.out.2.2.1 (.cells #[.int .i64 4,.string ⟨#[]⟩,.int .i64 (l.length:Nat)] 143)).grown y (by first|omega|(simp;omega)) (fun k hk=>(HO.out.lt k hk).1));have az:=Hk (show w5.ownsRow w.heap.size 143 3 v' (acc++[(4,[],l.length)]).length (tkV (acc++[(4,[],l.length)])) by rw[QmR,List.length_append,<-h.out.1];exact D);clear D y;go_wp2;go_ret;exact⟨Or.inl ⟨_,_,Z.out,rfl,az.out⟩,aN.out⟩
end Go.Proofs.YtjlgejennghhlaaGreatDoor.Fw
namespace Go.Proofs.YtjlgejennghhlaaGreatDoor.Pl
open Go.RowKit Fw
def Qhq (f:Flw) (n:By):Bool:=f.ins.any fun i=>i.name==n
def mkB (f:Flw) (n:By) (k:Nat):Bool:=match f.jobs[k]? with |some j=>j.outs.contains n|none=>false
def QeS (f:Flw) (k:Nat) (done:List Nat):Bool:=match f.jobs[k]? with |some j=>j.ins.all fun n=>Qhq f n||done.any (mkB f n)|none=>false
def QgI (f:Flw):Nat->List Nat->List Nat->Option (List Nat)
 |0,_,told=>some told
 |g+1,left,told=>match left.findIdx? fun k=>QeS f k told with
  |none=>none
  |some i=>QgI f g (left.eraseIdx i) (told++[left.getD i 0])
def Qjb (f:Flw):Option (List Nat):=QgI f f.jobs.length (List.range f.jobs.length) []
def Qaw (f:Flw):List By:=f.ins.map (·.name)++f.jobs.flatMap (·.outs)
theorem QoC {f:Flw} {n:By}:Qhq f n=true↔n∈f.ins.map (·.name):=by
 simp[Qhq,List.any_eq_true,beq_iff_eq]
theorem QpT {f:Flw} {n:By} {k:Nat}:mkB f n k=true↔∃j,f.jobs[k]? =some j/\n∈j.outs:=by
 unfold mkB
 cases h:f.jobs[k]? with
 |none=>simp
 |some j=>simp
theorem Qfa {f:Flw} {k:Nat} {y:List Nat}:QeS f k y=true↔∃j,f.jobs[k]? =some j/\∀n∈j.ins,n∈f.ins.map (·.name)\/∃m∈y,∃j',f.jobs[m]? =some j'/\n∈j'.outs:=by
 unfold QeS
 cases h:f.jobs[k]? with
 |none=>simp
 |some j=>
  simp only[List.all_eq_true,Bool.or_eq_true,QoC,List.any_eq_true,QpT,Option.some.injEq,exists_eq_left']
structure Good (f:Flw) (o:List Nat):Prop where
 perm:o.Perm (List.range f.jobs.length)
 ready:∀i (h:i<o.length),QeS f o[i] (o.take i)=true
theorem Good.nodup {f:Flw} {o:List Nat} (h:Good f o):o.Nodup:=h.perm.nodup_iff.2 List.nodup_range
theorem Good.mem {f:Flw} {o:List Nat} (h:Good f o) (k:Nat):k∈o↔k<f.jobs.length:=h.perm.mem_iff.trans List.mem_range
theorem Good.len {f:Flw} {o:List Nat} (h:Good f o):o.length=f.jobs.length:=by rw[h.perm.length_eq,List.length_range]
theorem Qdw:∀(l:List Nat) (i:Nat) (h:i<l.length),(([l[i]]:List Nat)++l.eraseIdx i).Perm l
 |[],i,h=>absurd h (by simp)
 |a::r,0,h=>List.Perm.refl _
 |a::r,i+1,h=>by
  have:=Qdw r i (by simpa using h);simp only[List.getElem_cons_succ,List.eraseIdx_cons_succ,List.singleton_append];exact(List.Perm.swap a _ _).trans (this.cons a)
theorem Qj4 (f:Flw):∀(g:Nat) (left told o:List Nat),left.length=g->(told++left).Perm (List.range f.jobs.length)->(∀i (h:i<told.length),QeS f told[i] (told.take i)=true)->QgI f g left told=some o->Good f o
 |0,left,told,o,hl,hp,hr,h=>by
  obtain rfl:=Option.some.inj h;obtain rfl:=List.length_eq_zero_iff.1 hl;exact⟨by simpa using hp,hr⟩
 |g+1,left,told,o,hl,hp,hr,h=>by
  unfold QgI at h
  cases hi:left.findIdx? fun k=>QeS f k told with
  |none=>rw[hi] at h;cases h
  |some i=>
   rw[hi] at h;obtain⟨y,D,-⟩:=List.findIdx?_eq_some_iff_getElem.1 hi;have F:left.getD i 0=left[i]:=by simp[List.getD_eq_getElem?_getD,List.getElem?_eq_getElem y]
   refine Qj4 f g _ _ o (by rw[List.length_eraseIdx_of_lt y];omega) ?_ ?_ h
   ·rw[F,List.append_assoc];refine List.Perm.trans (List.Perm.append_left told ?_) hp;exact Qdw left i y
   ·intro q E;rw[List.length_append] at E
    by_cases e:q<told.length
    ·rw[List.getElem_append_left e,List.take_append_of_le_length (by omega)];exact hr q e
    ·have H:q=told.length:=by simp at E;omega
     subst H;rw[List.getElem_append_right (Nat.le_refl _)];simp only[Nat.sub_self,List.getElem_cons_zero];rw[F,List.take_left' rfl];exact D
def Qrh (I:List By) (p:List FJob):Prop:=∀p1 j p2,p=p1++j::p2->∀n∈j.ins,n∈I\/∃j'∈p1,n∈j'.outs
theorem Qm3 {p:List FJob} {told:List FJob}:(∀j∈p,j∈told)\/∃y j D,p=y++j::D/\(∀x∈y,x∈told)/\j∉told:=by
 induction p with
 |nil=>exact Or.inl (by simp)
 |cons a r ih=>
  by_cases ha:a∈told
  ·rcases ih with h|⟨y,j,D,rfl,E,F⟩
   ·exact Or.inl (by simpa using ⟨ha,h⟩)
   ·exact Or.inr ⟨a::y,j,D,rfl,by simpa using ⟨ha,E⟩,F⟩
  ·exact Or.inr ⟨[],a,r,rfl,by simp,ha⟩
theorem Qie (f:Flw) (p:List FJob) (M:∀j,j∈p↔j∈f.jobs) (Z:Qrh (f.ins.map (·.name)) p):∀(g:Nat) (left told:List Nat),left.length=g->(told++left).Perm (List.range f.jobs.length)->(∀i (h:i<told.length),QeS f told[i] (told.take i)=true)->∃o,QgI f g left told=some o
 |0,left,told,hl,D,hr=>⟨told,rfl⟩
 |g+1,left,told,hl,D,hr=>by
  have F:∀k,(k∈told\/k∈left)↔k<f.jobs.length:=fun k=>by
   rw[<-List.mem_append,D.mem_iff,List.mem_range]
  have H:∃k∈left,QeS f k told=true:=by
   rcases Qm3 (p:=p) (told:=told.filterMap (fun k=>f.jobs[k]?)) with h|⟨p1,j,p2,rfl,h1,h2⟩
   ·obtain⟨k,y⟩:∃k,k∈left:=by
     cases left with
     |nil=>simp at hl
     |cons a r=>exact⟨a,by simp⟩
    refine⟨k,y,?_⟩;have J:=(F k).1 (Or.inr y);have hj:=h f.jobs[k] ((M _).2 (List.getElem_mem J));obtain⟨m,N,V⟩:=List.mem_filterMap.1 hj;obtain⟨i,I,rfl⟩:=List.mem_iff_getElem.1 N;have K:=hr i I;rw[Qfa] at K⊢;obtain⟨j,q1,q2⟩:=K;rw[V] at q1;refine⟨f.jobs[k],List.getElem?_eq_getElem J,fun n hn=>?_⟩;rw[<-Option.some.inj q1] at q2;exact(q2 n hn).imp id (fun⟨m',hm',z⟩=>⟨m',List.mem_of_mem_take hm',z⟩)
   ·obtain⟨k,y,rfl⟩:=List.mem_iff_getElem.1 ((M j).1 (by simp));have ab:k∉told:=fun hkt=>h2 (List.mem_filterMap.2 ⟨k,hkt,List.getElem?_eq_getElem y⟩)
    refine⟨k,((F k).2 y).resolve_left ab,?_⟩;rw[Qfa];refine⟨f.jobs[k],List.getElem?_eq_getElem y,fun n hn=>?_⟩;refine(Z p1 _ p2 rfl n hn).imp id (fun⟨j',hj',z⟩=>?_);obtain⟨m,N,q⟩:=List.mem_filterMap.1 (h1 j' hj');exact⟨m,N,j',q,z⟩
  unfold QgI
  cases I:left.findIdx? fun k=>QeS f k told with
  |none=>
   obtain⟨k,y,U⟩:=H;have:=List.findIdx?_eq_none_iff.1 I k y;rw[U] at this
   cases this
  |some i=>
   obtain⟨E,O,-⟩:=List.findIdx?_eq_some_iff_getElem.1 I;have hg:left.getD i 0=left[i]:=by simp[List.getD_eq_getElem?_getD,List.getElem?_eq_getElem E]
   refine Qie f p M Z g _ _ (by rw[List.length_eraseIdx_of_lt E];omega) ?_ ?_
   ·rw[hg,List.append_assoc];refine List.Perm.trans (List.Perm.append_left told ?_) D;exact Qdw left i E
   ·intro q D;rw[List.length_append] at D
    by_cases e:q<told.length
    ·rw[List.getElem_append_left e,List.take_append_of_le_length (by omega)];exact hr q e
    ·have ae:q=told.length:=by simp at D;omega
     subst ae;rw[List.getElem_append_right (Nat.le_refl _)];simp only[Nat.sub_self,List.getElem_cons_zero];rw[hg,List.take_left' rfl];exact O
theorem QbA {f:Flw} {o:List Nat} (h:Qjb f=some o):Good f o:=Qj4 f _ _ _ _ (by simp) (by simp) (fun i hi=>absurd hi (by simp)) h
theorem Qk4 {f:Flw} (p:List FJob) (h:∀j,j∈p↔j∈f.jobs) (y:Qrh (f.ins.map (·.name)) p):∃o,Qjb f=some o:=Qie f p h y _ _ _ (by simp) (by simp) (fun i hi=>absurd hi (by simp))
def Qbh (f:Flw) (o:List Nat):List FJob:=o.filterMap fun k=>f.jobs[k]?
theorem Good.jobs {f:Flw} {o:List Nat} (h:Good f o):(∀j,j∈Qbh f o↔j∈f.jobs)/\Qrh (f.ins.map (·.name)) (Qbh f o):=by
 constructor
 ·intro j;unfold Qbh;rw[List.mem_filterMap];constructor
  ·rintro⟨k,-,F⟩;exact List.mem_of_getElem? F
  ·intro U;obtain⟨k,F,rfl⟩:=List.mem_iff_getElem.1 U;exact⟨k,(h.mem k).2 F,List.getElem?_eq_getElem F⟩
 ·have K:∀i,i<=o.length->Qrh (f.ins.map (·.name)) (Qbh f (o.take i)):=by
   intro i
   induction i with
   |zero=>intro _ N j Z e;simp[Qbh] at e
   |succ i ih=>
    intro hi N j Z e n J;have H:i<o.length:=by omega
    have hr:=Qfa.1 (h.ready i H);obtain⟨V,q1,O⟩:=hr;have e2:Qbh f (o.take (i+1))=Qbh f (o.take i)++[V]:=by
     unfold Qbh;rw[List.take_add_one,List.filterMap_append,List.getElem?_eq_getElem H];simp[q1]
    rw[e2] at e;rcases List.append_eq_append_iff.1 e with ⟨xs,M,D⟩|⟨I,E,y⟩
    ·cases xs with
     |nil=>
      simp at D;obtain⟨rfl,-⟩:=D;refine(O n J).imp id (fun⟨m,hm,j',z1,z2⟩=>⟨j',?_,z2⟩);rw[M,List.append_nil];exact List.mem_filterMap.2 ⟨m,hm,z1⟩
     |cons a xs=>
      simp at D
    ·cases I with
     |nil=>
      simp at y;obtain⟨rfl,-⟩:=y;refine(O n J).imp id (fun⟨m,hm,j',z1,z2⟩=>⟨j',?_,z2⟩);rw[List.append_nil] at E;rw[<-E];exact List.mem_filterMap.2 ⟨m,hm,z1⟩
     |cons b I=>
      rw[List.cons_append] at y;injection y with y hb3;subst y;exact ih (by omega) N j I E n J
  have:=K o.length (Nat.le_refl _);rwa[List.take_length] at this
end Go.Proofs.YtjlgejennghhlaaGreatDoor.Pl
