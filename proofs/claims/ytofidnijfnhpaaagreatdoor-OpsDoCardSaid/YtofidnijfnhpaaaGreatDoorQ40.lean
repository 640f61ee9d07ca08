import Derived.MapKept
import Derived.Test.YtofidnijfnhpaaaGreatDoorQ01
import Derived.Test.YtofidnijfnhpaaaGreatDoorQ30
import Derived.Test.YtofidnijfnhpaaaGreatDoorQ39
import Derived.Test.YtofidnijfnhpaaaGreatDoorQ38
import Derived.Test.YtofidnijfnhpaaaGreatDoorQ07
set_option linter.unusedSimpArgs false
set_option linter.unusedVariables false
set_option linter.unusedSectionVars false
set_option maxRecDepth 1000000
set_option maxHeartbeats 16000000
namespace Go.Proofs.YtofidnijfnhpaaaGreatDoor
open Go.RowKit
theorem Tryz.infoRws:(Tryz.prog.info? 34).map (fun i=>(i.zero,i.size,i.bytes))=some (some (.slice none 0 0),1,24):=by kernel_rfl
theorem Tryz.underRws:Tryz.prog.underlying 77=some (.slice 34):=by kernel_rfl
theorem QjP (S:Nat) (z:S<=2) (w:World):(Instr.makeSlice 77 (.int .i64 (S:Int)) (.int .i64 (S:Int))).run Tryz.prog w=.ok (.slice (some ⟨w.heap.size,0,none⟩) S S) (w.alloc (.cells (madeCells #[.slice none 0 0] S) 34)):=by
 obtain⟨q,y,j,h,o⟩:=info_parts Tryz.infoRws
 have:=run_makeSlice (P:=Tryz.prog) (w:=w) 77 34 q (.slice none 0 0) Tryz.underRws y j .i64 .i64 S S (by omega) (by omega) (by rw[h];omega) (by rw[o];omega) (by omega)
 rw[h,Nat.mul_one] at this
 exact this
theorem QlK (S:Nat) (o:S<=2) (w:World) (t:TypeId):∀i,i<S->(w.alloc (.cells (madeCells #[.slice none 0 0] S) t)).cell? ⟨w.heap.size,i,none⟩=some (.slice none 0 0)/\(w.alloc (.cells (madeCells #[.slice none 0 0] S) t)).frozen? ⟨w.heap.size,i,none⟩=false:=by
 intro i j
 have h:(madeCells #[Value.slice none 0 0] S)[i]? =some (.slice none 0 0):=by
  unfold madeCells
  simp[j,Nat.mod_one]
 exact⟨by rw[World.cell?_alloc_at _ _ _ _ rfl];exact h,by simp⟩
theorem Qmc (w:World) (a:Obj) (v:Value) (t:TypeId) (H:Nat) (h:(w.alloc a).heap.size=H):((w.alloc a).alloc (.cells #[v] t)).cell? ⟨H,0,none⟩=some v:=by
 subst h
 rw[World.cell?_alloc_at _ _ _ _ rfl]
 rfl
theorem QjQ (w:World) (a b c d:Value) (t:TypeId):((w.alloc (.cells #[a,b] t)).alloc (.cells #[c,d] t)).drew.cell? ⟨w.heap.size,0,none⟩=some a/\((w.alloc (.cells #[a,b] t)).alloc (.cells #[c,d] t)).drew.cell? ⟨w.heap.size,1,none⟩=some b/\((w.alloc (.cells #[a,b] t)).alloc (.cells #[c,d] t)).drew.cell? ⟨w.heap.size+1,0,none⟩=some c/\((w.alloc (.cells #[a,b] t)).alloc (.cells #[c,d] t)).drew.cell? ⟨w.heap.size+1,1,none⟩=some d/\w.heap.size<((w.alloc (.cells #[a,b] t)).alloc (.cells #[c,d] t)).drew.heap.size/\w.heap.size+1<((w.alloc (.cells #[a,b] t)).alloc (.cells #[c,d] t)).drew.heap.size/\(∀k,((w.alloc (.cells #[a,b] t)).alloc (.cells #[c,d] t)).drew.frozen? ⟨w.heap.size,k,none⟩=false)/\(∀k,((w.alloc (.cells #[a,b] t)).alloc (.cells #[c,d] t)).drew.frozen? ⟨w.heap.size+1,k,none⟩=false)/\Below w.heap.size w ((w.alloc (.cells #[a,b] t)).alloc (.cells #[c,d] t)).drew:=
 ⟨by simp,by simp,by simp,by simp,by simp;omega,by simp,fun k=>by simp,fun k=>by simp,(Qad (Qab _ _) _).drew⟩
structure Keep2 (R M:Nat) (w w':World):Prop where
 os:w'.os=w.os
 tape:w'.tape=w.tape
 output:w'.output=w.output
 size:w.heap.size<=w'.heap.size
 block:∀k,k<w.heap.size->k≠R->k≠M->w'.heap[k]? =w.heap[k]?
theorem Keep2.refl (R M:Nat) (w:World):Keep2 R M w w:=⟨rfl,rfl,rfl,Nat.le_refl _,fun _ _ _ _=>rfl⟩
theorem Keep2.grown {R M:Nat} {w q o:World} {row:Option Nat} (h:Keep2 R M w q) (j:q.grownBy o row) (z:∀k,row=some k->w.heap.size<=k\/k=R\/k=M):Keep2 R M w o:=
 ⟨j.os.trans h.os,j.tape.trans h.tape,j.output.trans h.output,Nat.le_trans h.size j.size,fun k hk h1 h2=>(j.block k (Nat.lt_of_lt_of_le hk h.size) (fun e=>by rcases z k e.symm with y|y|y<;>omega)).trans (h.block k hk h1 h2)⟩
theorem Keep2.below {R M:Nat} {w o q:World} (h:Keep2 R M w o) (j:Below o.heap.size o q):Keep2 R M w q:=
 ⟨j.os.trans h.os,j.tape.trans h.tape,j.output.trans h.output,Nat.le_trans h.size j.size,fun k hk h1 h2=>(j.block k (Nat.lt_of_lt_of_le hk h.size)).trans (h.block k hk h1 h2)⟩
theorem Keep2.set {R M:Nat} {w j:World} (h:Keep2 R M w j) (i:Nat) (v:Value):Keep2 R M w (j.setCell ⟨R,i,none⟩ v):=
 ⟨h.os,h.tape,h.output,by simpa using h.size,fun k hk h1 h2=>(Below.heap_setCell j ⟨R,i,none⟩ v k h1).trans (h.block k hk h1 h2)⟩
theorem Keep2.cell {R M:Nat} {w j:World} (h:Keep2 R M w j) {p:Addr} (y:p.block<w.heap.size) (o:p.block≠R) (q:p.block≠M):j.cell? p=w.cell? p:=World.cell?_of_block (w:=w) (h.block p.block y o q)
theorem Keep2.bel {R M B:Nat} {w j:World} (h:Keep2 R M w j) (q:B<=w.heap.size) (y:B<=R) (o:B<=M):Below B w j:=⟨h.os,h.tape,h.output,h.size,fun k hk=>h.block k (by omega) (by omega) (by omega)⟩
theorem Keep2.trans {R M:Nat} {a b c:World} (h:Keep2 R M a b) (k:Keep2 R M b c):Keep2 R M a c:=
 ⟨k.os.trans h.os,k.tape.trans h.tape,k.output.trans h.output,Nat.le_trans h.size k.size,fun i hi h1 h2=>(k.block i (Nat.lt_of_lt_of_le hi h.size) h1 h2).trans (h.block i hi h1 h2)⟩
structure DoAt (w:World) (j:Jb) (ss:List ByteArray) (css:List (List Cl)) (tA tB:Tb) (jb gc A Bx q R mp:Nat) (vw vcA vrA vcB vrB:Value) (W:World):Prop where
 bel:Below w.heap.size w W
 job:Qaz W jb j
 jb0:w.heap.size<=jb
 jgc:jb<gc
 gA:gc<A
 gB:gc<Bx
 AB:A≠Bx
 AR:A<R
 BR:Bx<R
 qR:q=R+1
 mR:mp=R+2
 WR:W.heap.size=R+3
 heads:∃w2,Qbz w2 gc 0 css/\Below w2.heap.size w2 W/\gc<w2.heap.size/\w.heap.size<=w2.heap.size/\w2.heap.size<=A/\w2.heap.size<=Bx
 a0:W.cell? ⟨A,0,none⟩=some vcA
 a1:W.cell? ⟨A,1,none⟩=some vrA
 b0:W.cell? ⟨Bx,0,none⟩=some vcB
 b1:W.cell? ⟨Bx,1,none⟩=some vrB
 aF:∀k,W.frozen? ⟨A,k,none⟩=false
 colsA:Qav w vcA tA.1
 rowsA:QaC w vrA tA.2
 colsB:Qav w vcB tB.1
 rowsB:QaC w vrB tB.2
 wher:∃B,A<B/\Bx<B/\W.ownsRow B 3 1 vw ss.length (ss.map fun s=>Value.int .i64 (Qaq tA.1 s.data.toList))/\∀z,vw.ownBlock=some z->B<=z/\z<R
 qc:W.cell? ⟨q,0,none⟩=some (.slice (some ⟨R,0,none⟩) css.length css.length)
 rows:∀i,i<css.length->W.cell? ⟨R,i,none⟩=some (.slice none 0 0)/\W.frozen? ⟨R,i,none⟩=false
 map:W.heap[mp]? =some (.map #[] 0)
def QgP (w:World) (j:Jb) (ss:List ByteArray) (css:List (List Cl)) (tA tB:Tb) (vcA vrA vcB vrB:Value) (post:Ending->World->Prop):Prop:=∀(y0 y1 y3 y4 y5 y6 y7 y8 y10 y14 y15 y19 y20 y21 y22 y23 y24 y25 y26 y27 y28 y29 y30 y31 y32 y33 y34 y35 y36 y37 y38 y39 y40 y41 y42 y43 y44 y45 y46 y47 y48 y49 y50 y51 y52 y53 y54 y55 y56 y57 y58 y59 y60 y61 y62 y63 y64 y65 y66 y67 y68 y69 y70 y71 y72 y73 y74 y75 y76 y77 y78 y79 y80 y81 y82 y83 y84 y85 y86 y87 y88 y89 y90 y91 y92 y93 y94 y95 y96 y97 y98 y99 y100 y101 y102 y103 y104 y105 y106 y107 y108 y109 y110 y111 y112 y113 y114 y115 y116 y117 y118 y119 y120 y121 y122 y123 y124 y125 y126 y127 y128 y129 y130 y131 y132 y133 y134 y135 y136 y137 y138 y139 y140 y141 y142 y143 y144 y145 y146 y147 y148 y149 y150 y151 y152 y153 y154 y155 y156 y157 y158 y159 y160 y161 y162 y163 y164 y165 y166 y167 y168 y169 y170 y171 y172 y173 y174 y175 y176 y177 y178 y179 y180 y181 y182 y183 y184 y185 y186 y187 y188 y189 y190 y191 y192 y193 y194 y195 y196 y197 y198 y199 y200 y201 y202 y203 y204 y205 y206 y207 y208 y209 y210 y211 y212 y213 y214 y215 y216 y217 y218 y219 y220 y221 y222 y223 y224 y225 y226 y227 y228 y229 y230 y231 y232 y233 y234 y235 y236 y237 y238 y239 y240 y241 y242 y243 y244 y245 y246 y247 y248 y249 y250 y251 y252 y253 y254 y255 y256 y257 y258 y259 y260 y261 y262 y263 y264 y265 y266 y267 y268 y269 y270 y271 y272 y273 y274 y275 y276 y277 y278 y279 y280 y281 y282 y283 y284 y285 y286 y287 y288 y289 y290 y291 y292 y293 y294 y295 y296 y297 y298 y299 y300 y301 y302 y303 y304 y305 y306 y307 y308 y309 y310 y311 y312 y313 y314 y315 y316 y317 y318 y319 y320 y321 y322 y323 y324:Value) (jb gc cc A Bx q R mp:Nat) (vw:Value) (W:World),DoAt w j ss css tA tB jb gc A Bx q R mp vw vcA vrA vcB vrB W->Code.wp Tryz.prog (Ql3 11 Qib) (bodyPost Tryz.prog Tryz.f13 fun e w'=>post e w') ⟨#[y0,y1,.pointer (some ⟨jb,0,none⟩),y3,y4,y5,y6,y7,y8,.slice (some ⟨gc,0,none⟩) css.length cc,y10,.pointer (some ⟨A,0,none⟩),.pointer (some ⟨Bx,0,none⟩),vw,y14,y15,.pointer (some ⟨q,0,none⟩),.func (.func 31) #[] #[.pointer (some ⟨q,0,none⟩)],.map (some mp),y19,y20,y21,y22,y23,y24,y25,y26,y27,y28,y29,y30,y31,y32,y33,y34,y35,y36,y37,y38,y39,y40,y41,y42,y43,y44,y45,y46,y47,y48,y49,y50,y51,y52,y53,y54,y55,y56,y57,y58,y59,y60,y61,y62,y63,y64,y65,y66,y67,y68,y69,y70,y71,y72,y73,y74,y75,y76,y77,y78,y79,y80,y81,y82,y83,y84,y85,y86,y87,y88,y89,y90,y91,y92,y93,y94,y95,y96,y97,y98,y99,y100,y101,y102,y103,y104,y105,y106,y107,y108,y109,y110,y111,y112,y113,y114,y115,y116,y117,y118,y119,y120,y121,y122,y123,y124,y125,y126,y127,y128,y129,y130,y131,y132,y133,y134,y135,y136,y137,y138,y139,y140,y141,y142,y143,y144,y145,y146,y147,y148,y149,y150,y151,y152,y153,y154,y155,y156,y157,y158,y159,y160,y161,y162,y163,y164,y165,y166,y167,y168,y169,y170,y171,y172,y173,y174,y175,y176,y177,y178,y179,y180,y181,y182,y183,y184,y185,y186,y187,y188,y189,y190,y191,y192,y193,y194,y195,y196,y197,y198,y199,y200,y201,y202,y203,y204,y205,y206,y207,y208,y209,y210,y211,y212,y213,y214,y215,y216,y217,y218,y219,y220,y221,y222,y223,y224,y225,y226,y227,y228,y229,y230,y231,y232,y233,y234,y235,y236,y237,y238,y239,y240,y241,y242,y243,y244,y245,y246,y247,y248,y249,y250,y251,y252,y253,y254,y255,y256,y257,y258,y259,y260,y261,y262,y263,y264,y265,y266,y267,y268,y269,y270,y271,y272,y273,y274,y275,y276,y277,y278,y279,y280,y281,y282,y283,y284,y285,y286,y287,y288,y289,y290,y291,y292,y293,y294,y295,y296,y297,y298,y299,y300,y301,y302,y303,y304,y305,y306,y307,y308,y309,y310,y311,y312,y313,y314,y315,y316,y317,y318,y319,y320,y321,y322,y323,y324],[]⟩ W
theorem QlL (J y tcap:Nat) (ts:List Tb) (j:Jb) (w:World) (ht:Qa0 w J y ts) (af:J<w.heap.size) (hl:ts.length<=100) (bp:Qia ts) (cr:0<ts.length) (ap:∀t∈ts,Qan t.1 t.2=true)
 (css:List (List Cl)) (aS:css.length<=2) (c8:0<css.length) (ss:List ByteArray) (sa:Option Addr) (sc:Nat) (a5:j.cols=.slice sa ss.length sc) (bt:QaX w (.slice sa ss.length sc) ss) (dF:ss.length<=100)
 (ah:∀W B g aO us,Below w.heap.size w W->W.ownsRow B 33 1 (.slice (some ⟨g,0,none⟩) ts.length aO) ts.length us->QaA W us (ts.map (·.1))->Calls Tryz.prog 9 #[.agg j.cells,.slice (some ⟨g,0,none⟩) ts.length aO] W fun e w'=>∃g c,e=.returned (.tuple #[.slice (some ⟨g,0,none⟩) css.length c,.int .i64 0])/\W.heap.size<=g/\g<w'.heap.size/\Qbz w' g 0 css/\Below W.heap.size W w')
 (tA tB:Tb) (vcA aM vcB vrB:Value) (O:Nat) (aq:ts.length=O+1) (ba:ts[0]? =some tA) (bb:ts[O]? =some tB) (a0:w.cell? ⟨J,y,none⟩=some vcA) (a1:w.cell? ⟨J,y+1,none⟩=some aM) (b0:w.cell? ⟨J,y+O*2,none⟩=some vcB) (b1:w.cell? ⟨J,y+O*2+1,none⟩=some vrB) (a4:Qav w vcA tA.1) (bj:QaC w aM tA.2) (Z:Qav w vcB tB.1) (a9:QaC w vrB tB.2) (aJ:Ending->World->Prop) (aC:QgP w j ss css tA tB vcA aM vcB vrB aJ):
 Calls Tryz.prog 13 #[.agg j.cells,.slice (some ⟨J,y,none⟩) ts.length tcap] w fun e w'=>aJ e w':=by
 obtain⟨i0,hi,cF,bP,aL⟩:=info_parts Tryz.infoCols
 have aZ:=Hk aC
 have bm:=Hk (Ai ba (Ai bb aq))
 have ar:=Hk (Ai a0 (Ai a1 (Ai b0 b1)))
 have aR:=Hk (Ai a4 bj)
 have bf:=Hk (Ai Z a9)
 obtain⟨aj,ak,rfl,-⟩:=a4
 obtain⟨aA,ay,rfl,-⟩:=bj
 obtain⟨aB,aD,rfl,-⟩:=Z
 obtain⟨ax,aw,rfl,-⟩:=a9
 clear aC ba bb aq a0 a1 b0 b1
 obtain⟨k0,b4,b7,bN,cw⟩:=info_parts Tryz.infoInt
 have b8:=Hk a5
 have cD:=Hk bt
 clear a5 bt
 have HG:=Hk ap
 have HT:=Hk ht
 have aT:=Hk bp
 clear bp
 unfold Jb.cells at ah
 have au:=Hk ah
 clear ah
 clear ap ht
 have aQ:=Qbd w j 28
 unfold Jb.cells at aQ⊢
 have bq:=Hk aQ
 clear aQ
 go_enter Tryz.func13,Tryz.ntmps13
 go_wp2
 refine QbH (G:=fun w=>Code.wp _ _ _ _ w) (fun W0=>Qaz W0 w.heap.size j/\Below w.heap.size w W0/\w.heap.size<W0.heap.size) _ ⟨bq.out,Qab _ _,by simp⟩ ?_
 clear bq
 intro W0 ⟨F,a7,bZ⟩
 have HJ:=Hk (Ai F a7)
 clear F a7
 go_loopw [6,38] (fun l i wr=>∃(k:Nat) (us:List Value),k<=ts.length/\i=.int .i64 k/\wr.ownsRow W0.heap.size 33 1 l k us/\QaA w us ((ts.take k).map (·.1))/\Below W0.heap.size W0 wr) (fun _ i _=>ts.length-(intOf i).toNat)
 case atStart=>exact⟨0,[],Nat.zero_le _,rfl,World.ownsRow_nil _ _ _ _,⟨rfl,fun j hj=>absurd hj (by simp)⟩,Below.refl _ _⟩
 case round=>
  obtain⟨k,us,hk,rfl,E,I,ae⟩:=hrel
  obtain⟨la,lc,rfl⟩:=Qae E
  have D:Below w.heap.size w wr:=HJ.out.2.trans (ae.mono HJ.out.2.size)
  have dI:=ae.size
  have HO:=Hk (Ai E (Ai I (Ai ae D)))
  by_cases hlt:k<ts.length
  ·obtain⟨vc,vr,c0,c1,hc,hr⟩:=HT.out k hlt
   have d0:=cK D af c0
   have d1:=cK D af c1
   have aI:=fun W (hW:Below wr.heap.size wr W)=>QdQ vc vr ts[k].1 ts[k].2 W ((hc.below D).below hW) ((hr.below D).below hW) (aT.out _ (List.getElem_mem hlt)).1 (aT.out _ (List.getElem_mem hlt)).2
   have cg:=Hk hc
   obtain⟨ca,cc,rfl,-⟩:=hc
   obtain⟨ra,rc,rfl,-⟩:=hr
   have g:=HG.out _ (List.getElem_mem hlt)
   simp only[g] at aI
   have bS:=Hk aI
   clear aI c0 c1 E I D ae g
   have aP:(ts.take (k+1)).map (·.1)=(ts.take k).map (·.1)++[ts[k].1]:=by rw[List.take_succ_eq_append_getElem hlt,List.map_append];rfl
   have HM:=Hk aP
   clear aP
   generalize cb:ts[k].1=q1 at*
   clear cb
   generalize bO:ts[k].2.length=n2 at*
   clear bO
   go_wp2_with (first|(go_at_call 30;refine(bS.out _ (Qab _ _)).mono ?_;rintro e w1 ⟨rfl,ai⟩;obtain⟨co,b9⟩:=QbM ai;have dg:wr.heap.size<w1.heap.size:=by(have:=ai.size;simp at this;omega))|(at_builtin;refine wpList_append_own _ rfl _ _ 31 rfl W0.heap.size 33 i0 (.slice none 0 0) 1 24 Tryz.underlying31 hi cF bP aL rfl (by decide) _ _ _ rfl ((Qaf (HO.out.1.alloc _) ai).alloc _) ⟨w1.heap.size,0,none⟩ 1 1 [.slice ca q1.length cc] rfl rfl (QbG _ _ _ _ rfl) (QbZ _ _ _) ?c3 ?c4 ?c5 ?_))
   case c3=>unfold maxLen;omega
   case c4=>omega
   case c5=>have:=ai.size;simp at this⊢;omega
   intro v' w5 M T _
   obtain⟨p1,p2,p3,p4⟩:=HO.out
   have aK:Below W0.heap.size W0 w5:=((Qaa (Qad p3 _) ai).alloc (by omega) _).grown T (by simp;omega) (fun q hq=>(p1.lt q hq).1)
   have a8:QaA w (us++[.slice ca q1.length cc]) ((ts.take (k+1)).map (·.1)):=by
    rw[HM.out]
    exact p2.snoc cg.out
   have HF:=Hk (Ai M (Ai a8 aK))
   clear M T aK co b9 p1 p2 p3 p4 a8
   go_wp2
   go_roundw
   case rel=>exact⟨k+1,_,by omega,by go_num,HF.out.1,HF.out.2.1,HF.out.2.2⟩
   case measure=>simp[intOf];omega
  ·have bX:k=ts.length:=by omega
   subst bX
   simp only[List.take_length] at I
   obtain⟨g,aO,bk,dD⟩:=Qci (css:=ts.map (·.1)) (by simpa using E) (by simpa using cr)
   simp only[List.length_map,Value.slice.injEq,true_and] at bk
   obtain⟨rfl,rfl⟩:=bk
   have HC:=Hk (au.out wr W0.heap.size g lc us D E (I.below D))
   have F:=HJ.out.1.below ae bZ
   have j0:wr.cell? ⟨w.heap.size,0,none⟩=some (.int .i64 j.at_):=F 0 _ rfl
   have j1:wr.cell? ⟨w.heap.size,1,none⟩=some (.int .i64 j.code):=F 1 _ rfl
   have j2:wr.cell? ⟨w.heap.size,2,none⟩=some j.outs:=F 2 _ rfl
   have j3:wr.cell? ⟨w.heap.size,3,none⟩=some j.ins:=F 3 _ rfl
   have j4:wr.cell? ⟨w.heap.size,4,none⟩=some j.cols:=F 4 _ rfl
   have j5:wr.cell? ⟨w.heap.size,5,none⟩=some (.string j.op):=F 5 _ rfl
   have j6:wr.cell? ⟨w.heap.size,6,none⟩=some (.string j.left.1):=F 6 _ rfl
   have j7:wr.cell? ⟨w.heap.size,7,none⟩=some (.int .i64 j.left.2.1):=F 7 _ rfl
   have j8:wr.cell? ⟨w.heap.size,8,none⟩=some (.int .i64 j.left.2.2.1):=F 8 _ rfl
   have j9:wr.cell? ⟨w.heap.size,9,none⟩=some (.string j.left.2.2.2):=F 9 _ rfl
   have cl:wr.cell? ⟨w.heap.size,10,none⟩=some (.string j.right.1):=F 10 _ rfl
   have bL:wr.cell? ⟨w.heap.size,11,none⟩=some (.int .i64 j.right.2.1):=F 11 _ rfl
   have cx:wr.cell? ⟨w.heap.size,12,none⟩=some (.int .i64 j.right.2.2.1):=F 12 _ rfl
   have cj:wr.cell? ⟨w.heap.size,13,none⟩=some (.string j.right.2.2.2):=F 13 _ rfl
   have cf:wr.cell? ⟨w.heap.size,14,none⟩=some (.int .i64 j.retry):=F 14 _ rfl
   have cv:=Hk F
   have bn:=F.lt
   clear F E I D ae au
   have aq:=bm.out.2.2
   have hK:(ts.length:Int)-1=(O:Int):=by omega
   have dN:(O:Int)<(ts.length:Int):=by omega
   have dE:IntKind.i64.wrap (O:Int)=(O:Int):=by rw[IntKind.wrap_i64];omega
   have dy:(0:Int)<(ts.length:Int):=by omega
   have dz:¬((O:Int)<0):=by omega
   have dC:O<ts.length:=by omega
   clear aq
   go_upto_region 12 with (go_at_call 9;refine HC.out.mono ?_;rintro e w2 ⟨gc,cc,rfl,bl,bi,bc,aN⟩)
   have U:=Qaa HO.out.2.2.2 aN
   have x0:=cK U af ar.out.1
   have x1:=cK U af ar.out.2.1
   have y0:=cK U af ar.out.2.2.1
   have y1:=cK U af ar.out.2.2.2
   have ad:=Hk (Ai bc (Ai aN (Ai U (Ai bl bi))))
   clear bc aN U bl bi HC j0 j1 j2 j3 j4 j5 j6 j7 j8 j9 cl bL cx cj cf
   generalize bd:tA.1.length=nA at*
   generalize bh:tA.2.length=mA at*
   generalize bo:tB.1.length=nB at*
   generalize bs:tB.2.length=mB at*
   have dA:=Hk (Ai bd (Ai bh (Ai bo bs)))
   clear bd bh bo bs
   go_cut [11,12] (fun v11 v12 wx=>∃A Bx:Nat,v11=.pointer (some ⟨A,0,none⟩)/\v12=.pointer (some ⟨Bx,0,none⟩)/\Aside (wx.cell? ⟨A,0,none⟩=some (.slice aj nA ak)/\wx.cell? ⟨A,1,none⟩=some (.slice aA mA ay)/\wx.cell? ⟨Bx,0,none⟩=some (.slice aB nB aD)/\wx.cell? ⟨Bx,1,none⟩=some (.slice ax mB aw)/\A<wx.heap.size/\Bx<wx.heap.size/\w2.heap.size<=A/\w2.heap.size<=Bx/\A≠Bx/\(∀k,wx.frozen? ⟨A,k,none⟩=false)/\Below w2.heap.size w2 wx))
   case first=>
    go_region_held3 (fun w'=>w'.cell? ⟨J,y,none⟩=some (.slice aj nA ak)/\w'.cell? ⟨J,y+1,none⟩=some (.slice aA mA ay)/\w'.cell? ⟨J,y+O*2,none⟩=some (.slice aB nB aD)/\w'.cell? ⟨J,y+O*2+1,none⟩=some (.slice ax mB aw)) (go_keep) (first|fail)
    all_goals go_wp2_with fail
    all_goals go_meet
    ·obtain⟨x1,x2,x3,x4,x5,x6,x7,x8,x9⟩:=QjQ w2 (.slice aj nA ak) (.slice aA mA ay) (.slice aB nB aD) (.slice ax mB aw) 36
     exact⟨_,_,rfl,rfl,x1,x2,x3,x4,x5,x6,Nat.le_refl _,Nat.le_succ _,by omega,x7,x9⟩
    ·obtain⟨x1,x2,x3,x4,x5,x6,x7,x8,x9⟩:=QjQ w2 (.slice aB nB aD) (.slice ax mB aw) (.slice aj nA ak) (.slice aA mA ay) 36
     exact⟨_,_,rfl,rfl,x3,x4,x1,x2,x6,x5,Nat.le_succ _,Nat.le_refl _,by omega,x8,x9⟩
   case rest=>
    obtain⟨A,Bx,rfl,rfl,ag⟩:=hcut
    have Z:=ag.out.2.2.2.2.2.2.2.2.2.2
    have bU:=ag.out.2.2.2.2.1
    have aL:w.heap.size<w2.heap.size:=by have:=ad.out.2.1.size;omega
    have br:=Hk ((cv.out.below ad.out.2.1 bn).below Z aL)
    have az:=Qaa ad.out.2.2.1 Z
    have b6:=Hk az
    have hj4':wc.cell? ⟨w.heap.size,4,none⟩=some j.cols:=br.out 4 _ rfl
    have dM:=hj4'.trans (by rw[b8.out])
    clear hj4'
    have bY:=ag.out.1
    have bV:=Hk (fun nm W (hW:Below wc.heap.size wc W)=>QfO (.slice aj nA ak) tA.1 nm W ((aR.out.1.below az).below hW) (aT.out _ (List.mem_of_getElem? bm.out.1)).1)
    have cz:=Hk (cD.out.below az)
    have ce:w.heap.size<wc.heap.size:=by have:=Z.size;omega
    clear az Z bn x0 x1 y0 y1
    go_wp2
    go_loopw [13,72] (fun l i wq=>∃k:Nat,k<=ss.length/\i=.int .i64 k/\wq.ownsRow wc.heap.size 3 1 l k ((ss.map fun s=>Value.int .i64 (Qaq tA.1 s.data.toList)).take k)/\Below wc.heap.size wc wq) (fun _ i _=>ss.length-(intOf i).toNat)
    case atStart=>exact⟨0,Nat.zero_le _,rfl,World.ownsRow_nil _ _ _ _,Below.refl _ _⟩
    case round=>
     obtain⟨k,hk,rfl,E,D⟩:=hrel
     obtain⟨la,dJ,rfl⟩:=Qae E
     have N:=Hk (Ai E D)
     have dH:=D.size
     by_cases hlt:k<ss.length
     ·have cQ:(k:Int)<(ss.length:Int):=by omega
      obtain⟨dL,dK,be,-,-,bg⟩:=cz.out
      simp only[Value.slice.injEq,true_and] at be
      obtain⟨rfl,rfl⟩:=be
      obtain⟨sb,so,rfl,cd,aH⟩:∃b o,sa=some ⟨b,o,none⟩/\b<wc.heap.size/\QbO wc b o ss:=by
       rcases bg with h|h
       ·rw[h] at hlt;simp at hlt
       ·exact h
      have s0:=(D.cell (p:=⟨sb,so+k,none⟩) cd).trans (aH k hlt)
      have a0':=cK D bU bY
      have ck:=Hk (show(ss.map (fun s=>Value.int .i64 (Qaq tA.1 s.data.toList))).take (k+1)=(ss.map (fun s=>Value.int .i64 (Qaq tA.1 s.data.toList))).take k++[.int .i64 (Qaq tA.1 ss[k].data.toList)] by rw[List.take_succ_eq_append_getElem (by simpa using hlt),List.getElem_map])
      have ch:=Hk (bV.out ss[k])
      generalize ss[k]=nm at*
      generalize cp:Qaq tA.1 nm.data.toList=pl at*
      clear E D aH bg cp
      go_wp2_with (first|(go_at_call 19;refine(ch.out _ N.out.2).mono ?_;rintro e w3 ⟨rfl,am⟩)|(at_builtin;refine wpList_append_own _ rfl _ _ 76 rfl wc.heap.size 3 k0 (.int .i64 0) 1 8 Tryz.underlying76 b4 b7 bN cw rfl (by decide) _ _ _ rfl ((Qaf N.out.1 am).alloc _) ⟨w3.heap.size,0,none⟩ 1 1 [.int .i64 pl] rfl rfl (QbG _ _ _ _ rfl) (by intro u hu;simp at hu;subst hu;rfl) ?c3 ?c4 ?c5 ?_))
      case c3=>unfold maxLen;omega
      case c4=>omega
      case c5=>have:=am.size;simp;omega
      intro v' w5 M T _
      have a6:Below wc.heap.size wc w5:=((Qaa N.out.2 am).alloc (by have:=am.size;omega) _).grown T (by have:=am.size;simp;omega) (fun z hz=>(N.out.1.lt z hz).1)
      rw[<-ck.out] at M
      have HF:=Hk (Ai M a6)
      clear M T a6
      go_wp2
      go_roundw
      case rel=>exact⟨k+1,by omega,by go_num,HF.out.1,HF.out.2⟩
      case measure=>simp[intOf];omega
     ·obtain rfl:k=ss.length:=by omega
      have cu:=QjP css.length aS
      have ct:=@run_makeMap Tryz.prog
      have dG:=mkF
      clear E D
      go_upto_region 21 with (fail)
      rename_i Q' K hK
      have HK:=Hk hK
      clear hK
      go_wp2
      obtain⟨WM,aa⟩:∃W,W=(((wr.alloc (.cells (madeCells #[.slice none 0 0] css.length) 34)).alloc (.cells #[.slice (some ⟨wr.heap.size,0,none⟩) css.length css.length] 77)).alloc (.map #[] 0)):=⟨_,rfl⟩
      have av:Below wr.heap.size wr WM:=by rw[aa];exact Qad (Qad (Qab _ _) _) _
      have HR:=Hk (show∀i,i<css.length->WM.cell? ⟨wr.heap.size,i,none⟩=some (.slice none 0 0)/\WM.frozen? ⟨wr.heap.size,i,none⟩=false by
       intro i hi
       have hb:=Qad (Qab (wr.alloc (.cells (madeCells #[.slice none 0 0] css.length) 34)) (.cells #[.slice (some ⟨wr.heap.size,0,none⟩) css.length css.length] 77)) (.map #[] 0)
       obtain⟨h1,h2⟩:=QlK css.length aS wr 34 i hi
       rw[aa]
       exact⟨cK hb (by simp) h1,(hb.frozen (p:=⟨wr.heap.size,i,none⟩) (by simp)).trans h2⟩)
      have cn:WM.cell? ⟨wr.heap.size+1,0,none⟩=some (.slice (some ⟨wr.heap.size,0,none⟩) css.length css.length):=by
       have h0:=Qmc wr (.cells (madeCells #[.slice none 0 0] css.length) 34) (.slice (some ⟨wr.heap.size,0,none⟩) css.length css.length) 77 (wr.heap.size+1) (by simp)
       have hb:=Qab ((wr.alloc (.cells (madeCells #[.slice none 0 0] css.length) 34)).alloc (.cells #[.slice (some ⟨wr.heap.size,0,none⟩) css.length css.length] 77)) (.map #[] 0)
       rw[aa]
       exact cK hb (by simp) h0
      have cC:WM.heap.size=wr.heap.size+3:=by rw[aa];simp
      have bW:=Hk (show WM.heap[wr.heap.size+1+1]? =some (.map #[] 0) by rw[aa];have h9:=(Go.MapKept.heap_alloc ((wr.alloc (.cells (madeCells #[.slice none 0 0] css.length) 34)).alloc (.cells #[.slice (some ⟨wr.heap.size,0,none⟩) css.length css.length] 77)) (.map #[] 0)).1;simpa using h9)
      rw[<-aa]
      clear aa cu ct
      have ci:=ad.out.2.2.2
      have dB:=ad.out.2.1.size
      have hcut:=ag.out
      obtain⟨q0,q1,q2,q3,q4,q5,q6,q7,q8,q9,bu⟩:=hcut
      have V:=Qaa N.out.2 av
      have bK:=Qaa bu V
      have df:=bu.size
      have dx:=N.out.2.size
      refine HK.out _ _ (aZ.out _ _ _ _ _ _ _ _ _ _ _ _ _ _ _ _ _ _ _ _ _ _ _ _ _ _ _ _ _ _ _ _ _ _ _ _ _ _ _ _ _ _ _ _ _ _ _ _ _ _ _ _ _ _ _ _ _ _ _ _ _ _ _ _ _ _ _ _ _ _ _ _ _ _ _ _ _ _ _ _ _ _ _ _ _ _ _ _ _ _ _ _ _ _ _ _ _ _ _ _ _ _ _ _ _ _ _ _ _ _ _ _ _ _ _ _ _ _ _ _ _ _ _ _ _ _ _ _ _ _ _ _ _ _ _ _ _ _ _ _ _ _ _ _ _ _ _ _ _ _ _ _ _ _ _ _ _ _ _ _ _ _ _ _ _ _ _ _ _ _ _ _ _ _ _ _ _ _ _ _ _ _ _ _ _ _ _ _ _ _ _ _ _ _ _ _ _ _ _ _ _ _ _ _ _ _ _ _ _ _ _ _ _ _ _ _ _ _ _ _ _ _ _ _ _ _ _ _ _ _ _ _ _ _ _ _ _ _ _ _ _ _ _ _ _ _ _ _ _ _ _ _ _ _ _ _ _ _ _ _ _ _ _ _ _ _ _ _ _ _ _ _ _ _ _ _ _ _ _ _ _ _ _ _ _ _ _ _ _ _ _ _ _ _ _ _ _ _ _ _ _ _ _ _ _ _ _ _ _ _ _ _ _ _ _ _ _ w.heap.size gc cc A Bx (wr.heap.size+1) wr.heap.size (wr.heap.size+1+1) _ WM ?_)
      exact{
       bel:=Qaa (Qaa b6.out N.out.2) av
       job:=(br.out.below N.out.2 ce).below av (by omega)
       jb0:=Nat.le_refl _
       jgc:=by omega
       gA:=by omega
       gB:=by omega
       AB:=q8
       AR:=by omega
       BR:=by omega
       qR:=rfl
       mR:=rfl
       WR:=cC
       heads:=⟨w2,ad.out.1,bK,ci.2,by omega,q6,q7⟩
       a0:=cK V q4 q0
       a1:=cK V q4 q1
       b0:=cK V q5 q2
       b1:=cK V q5 q3
       aF:=fun k=>(V.frozen (p:=⟨A,k,none⟩) q4).trans (q9 k)
       colsA:=aR.out.1
       rowsA:=aR.out.2
       colsB:=bf.out.1
       rowsB:=bf.out.2
       wher:=⟨wc.heap.size,q4,q5,by have h:=Qaf N.out.1 av;rwa[List.take_of_length_le (by simp)] at h,fun z hz=>N.out.1.lt z hz⟩
       qc:=cn
       rows:=HR.out
       map:=bW.out}
end Go.Proofs.YtofidnijfnhpaaaGreatDoor
