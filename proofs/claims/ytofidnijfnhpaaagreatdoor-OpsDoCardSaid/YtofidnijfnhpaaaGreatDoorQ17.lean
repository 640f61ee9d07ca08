import Derived.Test.YtofidnijfnhpaaaGreatDoorQ01
import Derived.Test.YtofidnijfnhpaaaGreatDoorQ07
import Derived.Test.YtofidnijfnhpaaaGreatDoorQ16
import Derived.Test.YtofidnijfnhpaaaGreatDoorQ05
import Derived.Test.YtofidnijfnhpaaaGreatDoorQ15
set_option linter.unusedSimpArgs false
set_option linter.unusedVariables false
set_option linter.unusedSectionVars false
set_option maxRecDepth 1000000
set_option maxHeartbeats 16000000
namespace Go.Proofs.YtofidnijfnhpaaaGreatDoor
open Go.RowKit
theorem Qhk (tb N tcap:Nat) (ts:List Tb) (j:Jb) (w:World) (ht:Qa0 w tb N ts) (aj:tb<w.heap.size) (hl:ts.length<=100) (aQ:0<ts.length) (O:∀t∈ts,Qan t.1 t.2=true)
 (cs:List Cl) (mk:Nat) (n:Int) (hn:n≠0)
 (K:∀W B g ae us,Below w.heap.size w W->W.ownsRow B 33 1 (.slice (some ⟨g,0,none⟩) ts.length ae) ts.length us->QaA W us (ts.map (·.1))->Calls Tryz.prog 10 #[.agg j.cells,.slice (some ⟨g,0,none⟩) ts.length ae] W fun e w'=>∃v us,e=.returned (.tuple #[v,.nilIface])/\w'.ownsRow W.heap.size 33 1 v mk us/\Qbi w' W.heap.size us cs/\Below W.heap.size W w')
 (F:∀W,Below w.heap.size w W->Calls Tryz.prog 40 #[.agg j.cells,.slice (some ⟨tb,N,none⟩) ts.length tcap] W fun e w'=>e=.returned (.tuple #[.slice none 0 0,.slice none 0 0,Qbp n])/\Below W.heap.size W w'):
 Calls Tryz.prog 14 #[.agg j.cells,.slice (some ⟨tb,N,none⟩) ts.length tcap] w fun e w'=>e=.returned (.tuple #[.slice none 0 0,Qbp n])/\Below w.heap.size w w':=by
 obtain⟨i0,hi,a5,ay,aB⟩:=info_parts Tryz.infoCols
 have HG:=Hk O
 have HT:=Hk ht
 rw[Qa1 hn] at F⊢
 unfold Jb.cells at K F
 have U:=Hk K
 have Z:=Hk F
 clear K F
 clear O ht
 have ag:=Qbd w j 28
 unfold Jb.cells at ag⊢
 have am:=Hk ag
 clear ag
 go_enter Tryz.func14,Tryz.ntmps14
 go_wp2
 refine QbH (G:=fun w=>Code.wp _ _ _ _ w) (fun I=>Qaz I w.heap.size j/\Below w.heap.size w I/\w.heap.size<I.heap.size) _ ⟨am.out,Qab _ _,by simp⟩ ?_
 clear am
 intro I ⟨z,ah,aD⟩
 have HJ:=Hk (Ai z ah)
 clear z ah
 go_loopw [6,16] (fun l i wr=>∃(k:Nat) (us:List Value),k<=ts.length/\i=.int .i64 k/\wr.ownsRow I.heap.size 33 1 l k us/\QaA w us ((ts.take k).map (·.1))/\Below I.heap.size I wr) (fun _ i _=>ts.length-(intOf i).toNat)
 case atStart=>exact⟨0,[],Nat.zero_le _,rfl,World.ownsRow_nil _ _ _ _,⟨rfl,fun j hj=>absurd hj (by simp)⟩,Below.refl _ _⟩
 case round=>
  obtain⟨k,us,hk,rfl,E,A,J⟩:=hrel
  obtain⟨la,lc,rfl⟩:=Qae E
  have D:Below w.heap.size w wr:=HJ.out.2.trans (J.mono HJ.out.2.size)
  have bL:=J.size
  have HO:=Hk (Ai E (Ai A (Ai J D)))
  by_cases hlt:k<ts.length
  ·obtain⟨vc,vr,c0,c1,hc,hr⟩:=HT.out k hlt
   have d0:=cK D aj c0
   have d1:=cK D aj c1
   have ab:=fun W (hW:Below wr.heap.size wr W)=>Qcr vc vr ts[k].1 ts[k].2 W ((hc.below D).below hW) ((hr.below D).below hW)
   have aK:=Hk hc
   obtain⟨ca,cc,rfl,-⟩:=hc
   obtain⟨ra,rc,rfl,-⟩:=hr
   have g:=HG.out _ (List.getElem_mem hlt)
   simp only[g] at ab
   have aA:=Hk ab
   clear ab c0 c1 E A D J g
   have af:(ts.take (k+1)).map (·.1)=(ts.take k).map (·.1)++[ts[k].1]:=by rw[List.take_succ_eq_append_getElem hlt,List.map_append];rfl
   have HM:=Hk af
   clear af
   generalize aH:ts[k].1=q1 at*
   clear aH
   generalize ax:ts[k].2.length=n2 at*
   clear ax
   go_wp2_with (first|(go_at_call 39;refine(aA.out _ (Qab _ _)).mono ?_;rintro e w1 ⟨rfl,M⟩;obtain⟨aP,aG⟩:=QbM M;have bz:wr.heap.size<w1.heap.size:=by(have:=M.size;simp at this;omega))|(at_builtin;refine wpList_append_own _ rfl _ _ 31 rfl I.heap.size 33 i0 (.slice none 0 0) 1 24 Tryz.underlying31 hi a5 ay aB rfl (by decide) _ _ _ rfl ((Qaf (HO.out.1.alloc _) M).alloc _) ⟨w1.heap.size,0,none⟩ 1 1 [.slice ca q1.length cc] rfl rfl (QbG _ _ _ _ rfl) (QbZ _ _ _) ?c3 ?c4 ?c5 ?_))
   case c3=>unfold maxLen;omega
   case c4=>omega
   case c5=>have:=M.size;simp at this⊢;omega
   intro v' w5 T V _
   obtain⟨p1,p2,p3,p4⟩:=HO.out
   have ad:Below I.heap.size I w5:=((Qaa (Qad p3 _) M).alloc (by omega) _).grown V (by simp;omega) (fun q hq=>(p1.lt q hq).1)
   have ai:QaA w (us++[.slice ca q1.length cc]) ((ts.take (k+1)).map (·.1)):=by
    rw[HM.out]
    exact p2.snoc aK.out
   have HF:=Hk (Ai T (Ai ai ad))
   clear T V ad aP aG p1 p2 p3 p4 ai
   go_wp2
   go_roundw
   case rel=>exact⟨k+1,_,by omega,by go_num,HF.out.1,HF.out.2.1,HF.out.2.2⟩
   case measure=>simp[intOf];omega
  ·have aC:k=ts.length:=by omega
   subst aC
   simp only[List.take_length] at A
   obtain⟨g,ae,al,bI⟩:=Qci (css:=ts.map (·.1)) (by simpa using E) (by simpa using aQ)
   simp only[List.length_map,Value.slice.injEq,true_and] at al
   obtain⟨rfl,rfl⟩:=al
   have HC:=Hk (U.out wr I.heap.size g lc us D E (A.below D))
   have z:=HJ.out.1.below J aD
   have j0:wr.cell? ⟨w.heap.size,0,none⟩=some (.int .i64 j.at_):=z 0 _ rfl
   have j1:wr.cell? ⟨w.heap.size,1,none⟩=some (.int .i64 j.code):=z 1 _ rfl
   have j2:wr.cell? ⟨w.heap.size,2,none⟩=some j.outs:=z 2 _ rfl
   have j3:wr.cell? ⟨w.heap.size,3,none⟩=some j.ins:=z 3 _ rfl
   have j4:wr.cell? ⟨w.heap.size,4,none⟩=some j.cols:=z 4 _ rfl
   have j5:wr.cell? ⟨w.heap.size,5,none⟩=some (.string j.op):=z 5 _ rfl
   have j6:wr.cell? ⟨w.heap.size,6,none⟩=some (.string j.left.1):=z 6 _ rfl
   have j7:wr.cell? ⟨w.heap.size,7,none⟩=some (.int .i64 j.left.2.1):=z 7 _ rfl
   have j8:wr.cell? ⟨w.heap.size,8,none⟩=some (.int .i64 j.left.2.2.1):=z 8 _ rfl
   have j9:wr.cell? ⟨w.heap.size,9,none⟩=some (.string j.left.2.2.2):=z 9 _ rfl
   have aN:wr.cell? ⟨w.heap.size,10,none⟩=some (.string j.right.1):=z 10 _ rfl
   have av:wr.cell? ⟨w.heap.size,11,none⟩=some (.int .i64 j.right.2.1):=z 11 _ rfl
   have aT:wr.cell? ⟨w.heap.size,12,none⟩=some (.int .i64 j.right.2.2.1):=z 12 _ rfl
   have aM:wr.cell? ⟨w.heap.size,13,none⟩=some (.string j.right.2.2.2):=z 13 _ rfl
   have aJ:wr.cell? ⟨w.heap.size,14,none⟩=some (.int .i64 j.retry):=z 14 _ rfl
   have o:=Hk z
   have y:=z.lt
   clear z E A D J U
   go_wp2_with (go_at_call 10;refine HC.out.mono ?_;rintro e w2 ⟨vv,uu,rfl,aU,bJ,h⟩;obtain⟨bK,bM,rfl⟩:=Qae aU;have k0:=((o.out.below h y) 0 (.int .i64 j.at_) rfl);have k1:=((o.out.below h y) 1 (.int .i64 j.code) rfl);have k2:=((o.out.below h y) 2 j.outs rfl);have k3:=((o.out.below h y) 3 j.ins rfl);have k4:=((o.out.below h y) 4 j.cols rfl);have k5:=((o.out.below h y) 5 (.string j.op) rfl);have k6:=((o.out.below h y) 6 (.string j.left.1) rfl);have k7:=((o.out.below h y) 7 (.int .i64 j.left.2.1) rfl);have k8:=((o.out.below h y) 8 (.int .i64 j.left.2.2.1) rfl);have k9:=((o.out.below h y) 9 (.string j.left.2.2.2) rfl);have aW:=((o.out.below h y) 10 (.string j.right.1) rfl);have aL:=((o.out.below h y) 11 (.int .i64 j.right.2.1) rfl);have aI:=((o.out.below h y) 12 (.int .i64 j.right.2.2.1) rfl);have a4:=((o.out.below h y) 13 (.string j.right.2.2.2) rfl);have aw:=((o.out.below h y) 14 (.int .i64 j.retry) rfl))
   have ac:=Qaa HO.out.2.2.2 h
   have ak:=Hk (Z.out w2 ac)
   refine ak.out.mono ?_
   rintro e w3 ⟨rfl,aS⟩
   have ar:=Qaa ac aS
   have HZ:=Hk ar
   clear j0 j1 j2 j3 j4 j5 j6 j7 j8 j9 aN av aT aM aJ k0 k1 k2 k3 k4 k5 k6 k7 k8 k9 aW aL aI a4 aw ak Z
   go_wp2
   go_ret2
   exact⟨rfl,HZ.out⟩
abbrev Gr:=Vl×Int
def Qay (gs:List Gr):List Value:=gs.flatMap fun g=>[.int .i64 g.1.1,.int .i64 g.1.2.1,.string g.1.2.2,.int .i64 g.2]
theorem Tryz.infoGrp:(Tryz.prog.info? 153).map (fun i=>(i.zero,i.size,i.bytes))=some (some (.agg #[.int .i64 0,.int .i64 0,.string ⟨#[]⟩,.int .i64 0]),4,40):=by kernel_rfl
theorem QbD (gs:List Gr):(Qay gs).length=gs.length*4:=by
 induction gs with
 |nil=>rfl
 |cons c r ih=>simp only[Qay,List.flatMap_cons,List.length_append,List.length_cons,List.length_nil] at ih⊢;omega
theorem QaN (a b:List Gr):Qay (a++b)=Qay a++Qay b:=by simp[Qay]
def Qcz (p q:Nat) (gs:List Gr) (r:List Vl):List Gr:=
 match gs.getLast? with
 |none=>[(vAt r p,(vAt r q).2.1)]
 |some g=>if g.1=vAt r p then gs.dropLast++[(g.1,g.2+(vAt r q).2.1)] else gs++[(vAt r p,(vAt r q).2.1)]
def QdN (p q:Nat) (rs:List (List Vl)):List Gr:=rs.foldl (Qcz p q) []
def Qao (gs:List Gr):List (List Vl):=gs.map fun g=>[g.1,(1,g.2,⟨#[]⟩)]
theorem QcT {p q:Nat} {gs:List Gr} {r:List Vl} (h:∀g,gs.getLast? =some g->g.1≠vAt r p):Qcz p q gs r=gs++[(vAt r p,(vAt r q).2.1)]:=by
 unfold Qcz
 cases e:gs.getLast? with
 |none=>rw[List.getLast?_eq_none_iff] at e;subst e;rfl
 |some g=>simp only[];rw[if_neg (h g e)]
theorem Qgr {p q:Nat} {gs:List Gr} {g:Gr} {r:List Vl} (h:g.1=vAt r p):Qcz p q (gs++[g]) r=gs++[(g.1,g.2+(vAt r q).2.1)]:=by
 unfold Qcz
 simp[h]
theorem Qjo (p q:Nat) (gs:List Gr) (r:List Vl):(Qcz p q gs r).length<=gs.length+1:=by
 unfold Qcz
 cases e:gs.getLast? with
 |none=>simp
 |some g=>
  simp only[]
  split
  ·simp
  ·simp
theorem Qlh {w:World} {B:Nat} {gs:List Gr} {g:Gr} {c:Nat} {a:Option Addr} (h:w.ownsRow B 153 4 (.slice a (gs.length+1) c) (gs.length+1) (Qay (gs++[g]))):∃b,a=some ⟨b,0,none⟩/\B<=b/\b<w.heap.size/\w.cell? ⟨b,gs.length*4,none⟩=some (.int .i64 g.1.1)/\w.cell? ⟨b,gs.length*4+1,none⟩=some (.int .i64 g.1.2.1)/\w.cell? ⟨b,gs.length*4+2,none⟩=some (.string g.1.2.2)/\w.cell? ⟨b,gs.length*4+3,none⟩=some (.int .i64 g.2)/\∀k,w.frozen? ⟨b,k,none⟩=false:=by
 have A:∀q,a=some ⟨q,0,none⟩->∀k,w.frozen? ⟨q,k,none⟩=false:=by
  intro q z k
  obtain⟨-,⟨-,O⟩|⟨U,F,E,j,-,K,-⟩⟩:=h
  ·omega
  ·rw[z] at j
   simp only[Value.slice.injEq,Option.some.injEq,Addr.mk.injEq] at j
   obtain⟨⟨rfl,-⟩,-,-⟩:=j
   simp[World.frozen?,K]
 obtain⟨b,T,e,M,I,N⟩:=QaY h (by omega)
 simp only[Value.slice.injEq] at e
 have o:∀k (D:k<4) y,([Value.int .i64 g.1.1,.int .i64 g.1.2.1,.string g.1.2.2,.int .i64 g.2])[k]? =some y->w.cell? ⟨b,gs.length*4+k,none⟩=some y:=by
  intro k D y J
  have:=N (gs.length*4+k) y (by rw[QaN,List.getElem?_append_right (by rw[QbD];omega),QbD];simpa [Qay] using J)
  simpa using this
 exact⟨b,e.1,M,I,o 0 (by omega) _ rfl,o 1 (by omega) _ rfl,o 2 (by omega) _ rfl,o 3 (by omega) _ rfl,A b e.1⟩
theorem Qjp {w:World} {B b c:Nat} {gs:List Gr} {g:Gr} (h:w.ownsRow B 153 4 (.slice (some ⟨b,0,none⟩) (gs.length+1) c) (gs.length+1) (Qay (gs++[g]))) (t:Int):(w.setCell ⟨b,gs.length*4+3,none⟩ (.int .i64 t)).ownsRow B 153 4 (.slice (some ⟨b,0,none⟩) (gs.length+1) c) (gs.length+1) (Qay (gs++[(g.1,t)])):=by
 have e:Qay (gs++[(g.1,t)])=(Qay (gs++[g])).set (gs.length*4+3) (.int .i64 t):=by
  rw[QaN,QaN,List.set_append_right _ _ (by rw[QbD];omega),QbD,show gs.length*4+3-gs.length*4=3 by omega]
  rfl
 rw[e]
 exact(h.stored _ _).1
theorem Qb8 (p q:Nat) (rs:List (List Vl)) (k:Nat) (h:k<rs.length):QdN p q (rs.take (k+1))=Qcz p q (QdN p q (rs.take k)) rs[k]:=by
 unfold QdN
 rw[List.take_succ_eq_append_getElem h,List.foldl_append]
 rfl
theorem QeF (p q:Nat) (rs:List (List Vl)):(QdN p q rs).length<=rs.length:=by
 have o:∀(l:List (List Vl)) (j:List Gr),(l.foldl (Qcz p q) j).length<=j.length+l.length:=by
  intro l
  induction l with
  |nil=>intro j;simp
  |cons r l ih=>
   intro j
   have y:=ih (Qcz p q j r)
   have z:=Qjo p q j r
   simp only[List.foldl_cons,List.length_cons]
   omega
 have h:=o rs []
 rw[List.length_nil,Nat.zero_add] at h
 exact h
theorem Qdf (p q:Nat) (rs:List (List Vl)) (D:∀r∈rs,Qau (vAt r q).2.1):∀g∈QdN p q rs,-(1000000000*(rs.length:Int))<=g.2/\g.2<=1000000000*(rs.length:Int):=by
 have z:∀(l:List (List Vl)) (o:List Gr) (N:Int),0<=N->(∀r∈l,Qau (vAt r q).2.1)->(∀g∈o,-(1000000000*N)<=g.2/\g.2<=1000000000*N)->∀g∈l.foldl (Qcz p q) o,-(1000000000*(N+(l.length:Int)))<=g.2/\g.2<=1000000000*(N+(l.length:Int)):=by
  intro l
  induction l with
  |nil=>intro o N _ _ h g y;simpa using h g y
  |cons r l ih=>
   intro o N F B h g y
   have A:=B r (by simp)
   unfold Qau at A
   have h':=ih (Qcz p q o r) (N+1) (by omega) (fun x hx=>B x (by simp[hx])) (fun g' j=>by
    unfold Qcz at j
    cases e:o.getLast? with
    |none=>
     rw[e] at j
     simp at j
     rw[j]
     simp only
     omega
    |some g0=>
     rw[e] at j
     simp only[] at j
     have E:=h g0 (List.mem_of_getLast? e)
     split at j
     ·rcases List.mem_append.1 j with j|j
      ·have:=h g' ((List.dropLast_sublist _).subset j)
       omega
      ·simp at j
       rw[j]
       simp only
       omega
     ·rcases List.mem_append.1 j with j|j
      ·have:=h g' j
       omega
      ·simp at j
       rw[j]
       simp only
       omega) g (by simpa using y)
   simp only[List.length_cons]
   push_cast
   omega
 intro g y
 have:=z rs [] 0 (by omega) D (fun g y=>by simp at y) g y
 simpa using this
open Go.Sort (grow putRow putCells Holds)
def Qf8 (v:Value) (w w':World):Prop:=∀p:Addr,p.block<w.heap.size->v.ownBlock≠some p.block->w'.cell? p=w.cell? p
theorem Qh1 (v:Value) (w:World) (o:Obj):Qf8 v w (w.alloc o):=fun p hp _=>(Qab w o).cell hp
theorem Qf8.below {v:Value} {w j o:World} (h:Qf8 v w j) (q:Below j.heap.size j o) (y:w.heap.size<=j.heap.size):Qf8 v w o:=fun p hp hne=>(q.cell (Nat.lt_of_lt_of_le hp y)).trans (h p hp hne)
theorem QeG (v y:Value) (us:List Value) (rs:List (List Vl)) (B B2 m:Nat) (A:List Nat) (w:World) (hv:w.ownsRow B 57 1 v rs.length us) (hH:Qac w B us rs) (hl:∀r∈rs,r.length=m) (h1:1<=m) (h6:m<=100) (bB:rs.length<=100) (U:w.ownsRow B2 3 1 y A.length (Qa5 A)) (a4:0<A.length) (aT:A.length<=100) (ak:∀k∈A,k<m) (am:B<=w.heap.size):
 Calls Tryz.prog 70 #[v,y] w fun e E=>∃I D,e=.returned v/\Stb.Sorted (ltR A) D/\Stb.Same (ltR A) rs D/\E.ownsRow B 57 1 v rs.length I/\Qac E B I D/\Below B w E/\Qf8 v w E:=by
 have bz:=mkF
 obtain⟨aa,a7,rfl⟩:=Qae U
 obtain⟨y,ax⟩:∃q,q=Value.slice aa A.length a7:=⟨_,rfl⟩
 rw[<-ax] at U⊢
 have hS:∃a c,v=.slice a rs.length c/\Calls Tryz.prog 96 #[.slice a rs.length c,.func (.func 97) #[] #[.pointer (some ⟨w.heap.size,0,none⟩)]] (w.alloc (.cells #[y] 76)) fun e E=>e=.returned (.tuple #[])/\∃I D,Stb.Sorted (ltR A) D/\Stb.Same (ltR A) rs D/\E.ownsRow B 57 1 (.slice a rs.length c) rs.length I/\Qac E B I D/\Below B w E/\Qf8 (.slice a rs.length c) w E:=by
  obtain⟨al,⟨rfl,o⟩|⟨g,O,ah,rfl,aw,K,aQ,aG,aE,V⟩⟩:=hv
  ·refine⟨none,0,by rw[o],?_⟩
   rw[o]
   refine(Qds none 0 _ _).mono ?_
   rintro e E ⟨rfl,rfl⟩
   have Z:rs=[]:=List.length_eq_zero_iff.1 o
   refine⟨rfl,[],rs,by rw[Z];exact List.Pairwise.nil,Stb.Same.refl _ _,World.ownsRow_nil _ _ _ _,by rw[Z];exact Qac.nil _ _,(Below.refl _ _).alloc am _,Qh1 _ _ _⟩
  ·refine⟨some ⟨g,0,none⟩,O,rfl,?_⟩
   have aJ:g<w.heap.size:=(Array.getElem?_eq_some_iff.1 K).1
   rcases Nat.eq_zero_or_pos rs.length with o|bx
   ·rw[o]
    refine(Qds _ O _ _).mono ?_
    rintro e E ⟨rfl,rfl⟩
    have Z:rs=[]:=List.length_eq_zero_iff.1 o
    have bC:us=[]:=List.length_eq_zero_iff.1 (by rw[al,o])
    have ho:w.ownsRow B 57 1 (.slice (some ⟨g,0,none⟩) 0 O) 0 us:=⟨by rw[al,o],.inr ⟨g,O,ah,by rw[<-o],aw,K,by omega,aG,aE,by rw[o] at V;exact V⟩⟩
    exact⟨rfl,us,rs,by rw[Z];exact List.Pairwise.nil,Stb.Same.refl _ _,ho.alloc _,hH.below (Qab _ _),(Below.refl _ _).alloc am _,Qh1 _ _ _⟩
   ·obtain⟨n,o⟩:∃n,rs.length=n+1:=⟨rs.length-1,by omega⟩
    have J:us.length=n+1:=by rw[al,o];omega
    have aH:∀k,k<w.heap.size->(w.alloc (.cells #[y] 76)).heap[k]? =w.heap[k]?:=(Qab w _).block
    let enc:Fin (n+1)->Value:=fun i=>us[i.1]'(by rw[J];exact i.2)
    let row:Fin (n+1)->List Vl:=fun i=>rs[i.1]'(by rw[o];exact i.2)
    let cf:Fin (n+1)->Fin (n+1)->Int:=fun i j=>Qb2 A (row i) (row j)
    have M:∀i:Fin (n+1),∃b c cu,enc i=.slice (some ⟨b,0,none⟩) (row i).length c/\w.heap[b]? =some (.cells cu 24 (0,0))/\b<w.heap.size/\QaK w b 0 (row i)/\(row i).length=m/\b≠g:=by
     intro i
     have hi:i.1<rs.length:=by rw[o];exact i.2
     have aq:(row i).length=m:=hl _ (List.getElem_mem hi)
     obtain⟨b,c,cu,q1,q2,q3,q4⟩:=QhZ (hH.2 i.1 (by rw[J];exact i.2) hi).1 (hH.2 i.1 (by rw[J];exact i.2) hi).2 (by have:rs[i.1].length=m:=aq;omega)
     refine⟨b,c,cu,q1,q2,q3,q4,aq,?_⟩
     rintro rfl
     rw[K] at q2
     simp at q2
    have ag:(List.finRange (n+1)).length=rs.length:=by rw[List.length_finRange,o]
    have bE:(List.finRange (n+1)).map enc=us:=by
     refine List.ext_getElem (by simp[J]) fun k h1 h2=>?_
     simp[enc]
    have bc:(List.finRange (n+1)).map row=rs:=by
     refine List.ext_getElem (by simp[o]) fun k h1 h2=>?_
     simp[row]
    have hO:OneCell enc:=by
     intro i
     obtain⟨b,c,cu,q1,-⟩:=M i
     rw[q1];rfl
    have bf:Holds enc (w.alloc (.cells #[y] 76)) g 0 (List.finRange (n+1)).toArray:=by
     intro j T
     have hj':j<rs.length:=by rw[<-ag];simpa using T
     have hh:(w.alloc (.cells #[y] 76)).heap[g]? =some (.cells ah 57 (0,0)):=(aH g aJ).trans K
     refine⟨?_,by simp[World.frozen?,hh]⟩
     have h1:(ah.toList.take rs.length)[j]? =us[j]?:=by rw[Nat.mul_one] at V;rw[V]
     rw[List.getElem?_take_of_lt hj'] at h1
     simp only[World.cell?,hh,Nat.zero_add]
     simp only[Option.isSome_none,Bool.false_eq_true,if_false]
     rw[<-Array.getElem?_toList,h1,List.getElem?_eq_getElem (by rw[J];omega)]
     simp[enc,getElem!_pos,show j<n+1 by omega]
    have hR:Row1 enc (w.alloc (.cells #[y] 76)) g 0 (List.finRange (n+1)).toArray:=⟨hO,bf,by simp;omega⟩
    obtain⟨ab,ac,aI,-,aS,a5⟩:=Qey U a4
    have a9:ab≠g:=by
     obtain⟨-,⟨-,h0⟩|⟨g',bi,bj,au,-,ap,-,-,-,-⟩⟩:=U
     ·omega
     rw[aI] at au
     simp only[Value.slice.injEq,Option.some.injEq,Addr.mk.injEq] at au
     obtain⟨⟨rfl,-⟩,-,-⟩:=au
     rintro rfl
     rw[K] at ap
     simp at ap
    have aO:CmpLays1 Tryz.prog 97 #[.pointer (some ⟨w.heap.size,0,none⟩)] enc cf g 0 (List.finRange (n+1)).toArray.size (w.alloc (.cells #[y] 76)):=by
     intro q os dk bA i j
     obtain⟨b,c,cu,e1,e2,e3,e4,e5,e6⟩:=M i
     obtain⟨b',c',bD,f1,f2,f3,f4,f5,f6⟩:=M j
     have F:∀a:Addr,a.block≠g->a.block<w.heap.size->(sortWorld enc (w.alloc (.cells #[y] 76)) g 0 q dk os).cell? a=w.cell? a:=fun a h h'=>(QaU enc _ g q dk os a h (by simp;omega)).trans ((Qab w _).cell h')
     have hsz:w.heap.size+1<=(sortWorld enc (w.alloc (.cells #[y] 76)) g 0 q dk os).heap.size:=by unfold sortWorld;simp
     have a6:(sortWorld enc (w.alloc (.cells #[y] 76)) g 0 q dk os).cell? ⟨w.heap.size,0,none⟩=some (.slice (some ⟨ab,0,none⟩) A.length ac):=by
      rw[QaU enc _ g q dk os _ (by show w.heap.size≠g;omega) (by simp),<-aI]
      simp
     have hh:=QeA b 0 c b' 0 c' ab 0 ac w.heap.size (row i) (row j) A (sortWorld enc (w.alloc (.cells #[y] 76)) g 0 q dk os) (by omega) (fun k N=>by obtain⟨z0,z1,z2⟩:=e4 k N;exact⟨(F _ e6 e3).trans z0,(F _ e6 e3).trans z1,(F _ e6 e3).trans z2⟩) (by omega) (fun k N=>by obtain⟨z0,z1,z2⟩:=f4 k N;exact⟨(F _ f6 f3).trans z0,(F _ f6 f3).trans z1,(F _ f6 f3).trans z2⟩) (by omega) (fun k N=>(F _ a9 aS).trans (a5 k N)) (by omega) a6 (by rw[e5];exact ak) (by rw[f5];exact ak) aT (by omega) (by omega)
     rw[e1,f1]
     exact hh
    have ho:Stb.Ord (ltOf cf):=⟨fun a b h=>(Qgo A).asymm _ _ h,fun a b c h h'=>(Qgo A).ntrans _ _ _ h h'⟩
    refine(Stb.sortStable_any enc cf 97 #[.pointer (some ⟨w.heap.size,0,none⟩)] g 0 O rs.length (List.finRange (n+1)) (w.alloc (.cells #[y] 76)) ?eg aO ho hR ag (by omega)).mono ?_
    case eg=>intro args W;first|rfl|kernel_rfl
    rintro e E ⟨rfl,l,s1,s2,ad⟩
    refine⟨rfl,l.map enc,l.map row,Stb.Sorted.map row s1,?_,?_,?_,?_,?_⟩
    ·have:=Stb.Same.map (Qgo A) row s2
     rw[bc] at this
     exact this
    ·obtain⟨q,os,rfl⟩:=ad
     have aU:l.length=rs.length:=by rw[<-s2.len ho,ag]
     unfold sortWorld
     exact owns_srt aU aw ((aH g aJ).trans K) aQ aG aE
    ·obtain⟨q,os,rfl⟩:=ad
     refine⟨by simp,fun j T hj'=>?_⟩
     simp only[List.getElem_map]
     have hi:(l[j]'(by simpa using T)).1<rs.length:=by rw[o];exact(l[j]'(by simpa using T)).2
     have N:=hH.2 (l[j]'(by simpa using T)).1 (by rw[J];exact(l[j]'(by simpa using T)).2) hi
     obtain⟨b,c,cu,e1,e2,e3,e4,e5,e6⟩:=M (l[j]'(by simpa using T))
     refine⟨(N.1.alloc _).kept (grown_srt (enc:=enc) (n:=q) (os:=os) l.toArray) ?_,N.2⟩
     refine Or.inr ?_
     show(enc (l[j]'(by simpa using T))).ownBlock≠_
     rw[e1]
     show some b≠some g
     intro e
     exact e6 (Option.some.inj e)
    ·obtain⟨q,os,rfl⟩:=ad
     have aY:Below B w (w.alloc (.cells #[y] 76)):=(Below.refl _ _).alloc am _
     have aW:=grown_srt (enc:=enc) (w:=w.alloc (.cells #[y] 76)) (g:=g) (n:=q) (os:=os) l.toArray
     exact aY.grown aW (by simp;omega) (fun z hz=>by cases hz;exact aw)
    ·obtain⟨q,os,rfl⟩:=ad
     intro p hp bd
     have aZ:p.block≠g:=fun e=>bd (by rw[e];rfl)
     exact(QaU enc _ g q l.toArray os p aZ (by simp;omega)).trans ((Qab w _).cell hp)
 obtain⟨a,c,rfl,hS⟩:=hS
 subst ax
 have HS:=Hk hS
 clear hS hv hH hl ak U
 go_enter Tryz.func70,Tryz.ntmps70
 go_wp2_with (go_at_call 96;fail)
 refine HS.out.mono ?_
 rintro e w2 ⟨rfl,hq⟩
 have HF:=Hk hq
 clear hq
 go_wp2
 go_ret
 obtain⟨I,D,q1,q2,q3,q4,q5,q6⟩:=HF.out
 exact⟨I,D,rfl,q1,q2,q3,q4,q5,q6⟩
end Go.Proofs.YtofidnijfnhpaaaGreatDoor
