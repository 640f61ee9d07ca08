import Derived.Test.YtofidnijfnhpaaaGreatDoorQ01
import Derived.Test.YtofidnijfnhpaaaGreatDoorQ42
import Derived.Test.YtofidnijfnhpaaaGreatDoorQ22
set_option linter.unusedSimpArgs false
set_option linter.unusedVariables false
set_option linter.unusedSectionVars false
set_option maxRecDepth 1000000
set_option maxHeartbeats 16000000
namespace Go.Proofs.YtofidnijfnhpaaaGreatDoor
open Go.RowKit
def Qll (w W:World) (R M:Nat) (v:Value) (rs:List (List Vl)):Prop:=∃a c,v=.slice a rs.length c/\∀(k:Nat) (hk:k<rs.length),∃b o u,a=some ⟨b,o,none⟩/\b<W.heap.size/\b≠R/\b≠M/\W.cell? ⟨b,o+k,none⟩=some u/\Qbk w u rs[k]
structure LpAt (w:World) (j:Jb) (ss:List ByteArray) (css:List (List Cl)) (tA tB:Tb) (jb gc A Bx q R mp:Nat) (vw vcA v1 vcB vrB:Value) (rs:List (List Vl)) (W:World):Prop where
 bel:Below w.heap.size w W
 job:Qaz W jb j
 jb0:w.heap.size<=jb
 jgc:jb<gc
 gA:gc<A
 gB:gc<Bx
 AB:A≠Bx
 AR:A<R
 BR:Bx<R
 qR:q=R+1
 mR:mp=R+2
 WR:R+3<=W.heap.size
 heads:∃w2,Qbz w2 gc 0 css/\Below w2.heap.size w2 W/\gc<w2.heap.size/\w.heap.size<=w2.heap.size/\w2.heap.size<=A/\w2.heap.size<=Bx
 a0:W.cell? ⟨A,0,none⟩=some vcA
 a1:W.cell? ⟨A,1,none⟩=some v1
 b0:W.cell? ⟨Bx,0,none⟩=some vcB
 b1:W.cell? ⟨Bx,1,none⟩=some vrB
 src:Qll w W R mp v1 rs
 colsA:Qav w vcA tA.1
 colsB:Qav w vcB tB.1
 rowsB:QaC w vrB tB.2
 wher:∃B,A<B/\Bx<B/\W.ownsRow B 3 1 vw ss.length (ss.map fun s=>Value.int .i64 (Qaq tA.1 s.data.toList))/\∀z,vw.ownBlock=some z->B<=z/\z<R
 qc:W.cell? ⟨q,0,none⟩=some (.slice (some ⟨R,0,none⟩) css.length css.length)
 rows:∀i,i<css.length->W.cell? ⟨R,i,none⟩=some (.slice none 0 0)/\W.frozen? ⟨R,i,none⟩=false
 map:W.heap[mp]? =some (.map #[] 0)
def Qco (w:World) (j:Jb) (ss:List ByteArray) (css:List (List Cl)) (tA tB:Tb) (vcA vcB vrB:Value) (rs:List (List Vl)) (post:Ending->World->Prop):Prop:=∀(y0 y1 y3 y4 y5 y6 y7 y8 y10 y14 y15 y19 y20 y21 y22 y23 y24 y25 y26 y27 y28 y29 y30 y31 y32 y33 y34 y35 y36 y37 y38 y39 y40 y41 y42 y43 y44 y45 y46 y47 y48 y49 y50 y51 y52 y53 y54 y55 y56 y57 y58 y59 y60 y61 y62 y63 y64 y65 y66 y67 y68 y69 y70 y71 y72 y73 y74 y75 y76 y77 y78 y79 y80 y81 y82 y83 y84 y85 y86 y87 y88 y89 y90 y91 y92 y93 y94 y95 y96 y97 y98 y99 y100 y101 y102 y103 y104 y105 y106 y107 y108 y109 y110 y111 y112 y113 y114 y115 y116 y117 y118 y119 y120 y121 y122 y123 y124 y125 y126 y127 y128 y129 y130 y131 y132 y133 y134 y135 y136 y137 y138 y139 y140 y141 y142 y143 y144 y145 y146 y147 y148 y149 y150 y151 y152 y153 y154 y155 y156 y157 y158 y159 y160 y161 y162 y163 y164 y165 y166 y167 y168 y169 y170 y171 y172 y173 y174 y175 y176 y177 y178 y179 y180 y181 y182 y183 y184 y185 y186 y187 y188 y189 y190 y191 y192 y193 y194 y195 y196 y197 y198 y199 y200 y201 y202 y203 y204 y205 y206 y207 y208 y209 y210 y211 y212 y213 y214 y215 y216 y217 y218 y219 y220 y221 y222 y223 y224 y225 y226 y227 y228 y229 y230 y231 y232 y233 y234 y235 y236 y237 y238 y239 y240 y241 y242 y243 y244 y245 y246 y247 y248 y249 y250 y251 y252 y253 y254 y255 y256 y257 y258 y259 y260 y261 y262 y263 y264 y265 y266 y267 y268 y269 y270 y271 y272 y273 y274 y275 y276 y277 y278 y279 y280 y281 y282 y283 y284 y285 y286 y287 y288 y289 y290 y291 y292 y293 y294 y295 y296 y297 y298 y299 y300 y301 y302 y303 y304 y305 y306 y307 y308 y309 y310 y311 y312 y313 y314 y315 y316 y317 y318 y319 y320 y321 y322 y323 y324:Value) (jb gc cc A Bx q R mp:Nat) (vw v1:Value) (W:World),LpAt w j ss css tA tB jb gc A Bx q R mp vw vcA v1 vcB vrB rs W->Code.wp Tryz.prog (Ql3 12 Qib) (bodyPost Tryz.prog Tryz.f13 fun e w'=>post e w') ⟨#[y0,y1,.pointer (some ⟨jb,0,none⟩),y3,y4,y5,y6,y7,y8,.slice (some ⟨gc,0,none⟩) css.length cc,y10,.pointer (some ⟨A,0,none⟩),.pointer (some ⟨Bx,0,none⟩),vw,y14,y15,.pointer (some ⟨q,0,none⟩),.func (.func 31) #[] #[.pointer (some ⟨q,0,none⟩)],.map (some mp),y19,y20,y21,y22,y23,y24,y25,y26,y27,y28,y29,y30,y31,y32,y33,y34,y35,y36,y37,y38,y39,y40,y41,y42,y43,y44,y45,y46,y47,y48,y49,y50,y51,y52,y53,y54,y55,y56,y57,y58,y59,y60,y61,y62,y63,y64,y65,y66,y67,y68,y69,y70,y71,y72,y73,y74,y75,y76,y77,y78,y79,y80,y81,y82,y83,y84,y85,y86,y87,y88,y89,y90,y91,y92,y93,y94,y95,y96,y97,y98,y99,y100,y101,y102,y103,y104,y105,y106,y107,y108,y109,y110,y111,y112,y113,y114,y115,y116,y117,y118,y119,y120,y121,y122,y123,y124,y125,y126,y127,y128,y129,y130,y131,y132,y133,y134,y135,y136,y137,y138,y139,y140,y141,y142,y143,y144,y145,y146,y147,y148,y149,y150,y151,y152,y153,y154,y155,y156,y157,y158,y159,y160,y161,y162,y163,y164,y165,y166,y167,y168,y169,y170,y171,y172,y173,y174,y175,y176,y177,y178,y179,y180,y181,y182,y183,y184,y185,y186,y187,y188,y189,y190,y191,y192,y193,y194,y195,y196,y197,y198,y199,y200,y201,y202,y203,y204,y205,y206,y207,y208,y209,y210,y211,y212,y213,y214,y215,y216,y217,y218,y219,y220,y221,y222,y223,y224,y225,y226,y227,y228,y229,y230,y231,y232,y233,y234,y235,y236,y237,y238,y239,y240,y241,y242,y243,y244,y245,y246,y247,y248,y249,y250,y251,y252,y253,y254,y255,y256,y257,y258,y259,y260,y261,y262,y263,y264,y265,y266,y267,y268,y269,y270,y271,y272,y273,y274,y275,y276,y277,y278,y279,y280,y281,y282,y283,y284,y285,y286,y287,y288,y289,y290,y291,y292,y293,y294,y295,y296,y297,y298,y299,y300,y301,y302,y303,y304,y305,y306,y307,y308,y309,y310,y311,y312,y313,y314,y315,y316,y317,y318,y319,y320,y321,y322,y323,y324],[]⟩ W
theorem QlO {w W:World} {v:Value} {rs:List (List Vl)} {R M:Nat} (h:QaC w v rs) (j:Below w.heap.size w W) (D:w.heap.size<=R) (B:w.heap.size<=M):Qll w W R M v rs:=by
 obtain⟨a,c,e,h⟩:=Qme h j
 refine⟨a,c,e,fun k hk=>?_⟩
 obtain⟨b,o,u,y,A,q,z⟩:=h k hk
 exact⟨b,o,u,y,Nat.lt_of_lt_of_le A j.size,by omega,by omega,q,z⟩
theorem DoAt.lp {w W:World} {j:Jb} {ss:List ByteArray} {css:List (List Cl)} {tA tB:Tb} {z D A B q R E:Nat} {y vcA o vcB vrB:Value} (h:DoAt w j ss css tA tB z D A B q R E y vcA o vcB vrB W):LpAt w j ss css tA tB z D A B q R E y vcA o vcB vrB tA.2 W:=
 have M:=h.jb0
 have J:=h.jgc
 have K:=h.gA
 have I:=h.AR
 have F:=h.mR
 ⟨h.bel,h.job,h.jb0,h.jgc,h.gA,h.gB,h.AB,h.AR,h.BR,h.qR,h.mR,Nat.le_of_eq h.WR.symm,h.heads,h.a0,h.a1,h.b0,h.b1,QlO h.rowsA h.bel (by omega) (by omega),h.colsA,h.colsB,h.rowsB,h.wher,h.qc,h.rows,h.map⟩
theorem QbF {w:World} {j:Jb} {ss:List ByteArray} {css:List (List Cl)} {tA tB:Tb} {vcA B vcB vrB:Value} {o:Ending->World->Prop} (D:j.code≠4) (J:j.code≠8) (h:Qco w j ss css tA tB vcA vcB vrB tA.2 o):QgP w j ss css tA tB vcA B vcB vrB o:=by
 iterate 317 intro _
 intro F I M A Bx q R mp vw W z
 have K:=Hk z
 have V:W.cell? ⟨F,1,none⟩=some (.int .i64 j.code):=z.job 1 _ rfl
 have T:(j.code==4)=false:=by simp[D]
 have Z:(j.code==8)=false:=by simp[J]
 have E:=Hk h
 clear h z
 conv=>arg 2;whnf
 go_upto_region 22 with fail
 rename_i K2 y U O
 have N:=Hk y
 clear y
 go_wp2
 exact N.out _ _ (E.out _ _ _ _ _ _ _ _ _ _ _ _ _ _ _ _ _ _ _ _ _ _ _ _ _ _ _ _ _ _ _ _ _ _ _ _ _ _ _ _ _ _ _ _ _ _ _ _ _ _ _ _ _ _ _ _ _ _ _ _ _ _ _ _ _ _ _ _ _ _ _ _ _ _ _ _ _ _ _ _ _ _ _ _ _ _ _ _ _ _ _ _ _ _ _ _ _ _ _ _ _ _ _ _ _ _ _ _ _ _ _ _ _ _ _ _ _ _ _ _ _ _ _ _ _ _ _ _ _ _ _ _ _ _ _ _ _ _ _ _ _ _ _ _ _ _ _ _ _ _ _ _ _ _ _ _ _ _ _ _ _ _ _ _ _ _ _ _ _ _ _ _ _ _ _ _ _ _ _ _ _ _ _ _ _ _ _ _ _ _ _ _ _ _ _ _ _ _ _ _ _ _ _ _ _ _ _ _ _ _ _ _ _ _ _ _ _ _ _ _ _ _ _ _ _ _ _ _ _ _ _ _ _ _ _ _ _ _ _ _ _ _ _ _ _ _ _ _ _ _ _ _ _ _ _ _ _ _ _ _ _ _ _ _ _ _ _ _ _ _ _ _ _ _ _ _ _ _ _ _ _ _ _ _ _ _ _ _ _ _ _ _ _ _ _ _ _ _ _ _ _ _ _ _ _ _ _ _ _ _ _ _ _ _ _ _ _ _ I M _ _ _ _ _ _ _ _ K.out.lp)
theorem QdU:∀(r:List Vl) (cs:List Cl),Qbm r cs=true->∀(k:Nat) (h:k<cs.length),(vAt r k).1=cs[k].2
 |[],[],_,k,h=>absurd h (by simp)
 |[],c::cs,hr,k,h=>by simp[Qbm] at hr
 |v::r,[],hr,k,h=>absurd h (by simp)
 |v::r,c::cs,hr,k,h=>by
  simp only[Qbm,Bool.and_eq_true,decide_eq_true_eq,beq_iff_eq] at hr
  cases k with
  |zero=>simp[vAt];first|exact hr.2.1|exact hr.1.2|exact hr.1|exact hr.1.1
  |succ k=>
   have:=QdU r cs (by first|exact hr.2.2|exact hr.2) k (by simpa using h)
   simpa [vAt] using this
theorem QeR {cs:List Cl} {rs:List (List Vl)} (h:Qan cs rs=true) (A:List Nat) (z:∀k∈A,k<cs.length):∀r∈rs,∀j∈rs,∀k∈A,(vAt r k).1=(vAt j k).1:=by
 intro r B j q k o
 obtain⟨-,-,y⟩:=Qbh h
 rw[QdU r cs (y r B) k (z k o),QdU j cs (y j q) k (z k o)]
theorem QfV {W:World} {B:Nat} {q:Value} {cs:List Cl} {ss:List ByteArray} (h:W.ownsRow B 3 1 q ss.length (ss.map fun s=>Value.int .i64 (Qaq cs s.data.toList))) (A:0<ss.length) (j:∀s∈ss,∃k,Qak cs s.data.toList=some k):∃g c,q=.slice (some ⟨g,0,none⟩) ss.length c/\B<=g/\g<W.heap.size/\ss.length<=c/\QbJ W g 0 (Qag cs ss):=by
 obtain⟨g,c,e,D,E,z⟩:=QaY h A
 have F:ss.length<=c:=by
  obtain⟨-,⟨-,K⟩|⟨N,I,J,y,-,-,M,-⟩⟩:=h
  ·omega
  ·rw[e] at y
   simp only[Value.slice.injEq] at y
   omega
 refine⟨g,c,e,D,E,F,fun i o=>?_⟩
 have hi':i<ss.length:=by simpa [Qag] using o
 have:=z i _ (by rw[List.getElem?_map,List.getElem?_eq_getElem hi'];rfl)
 rw[this]
 show some (Value.int .i64 (Qaq cs ss[i].data.toList))=_
 rw[Qaw (QcP j i hi' o)]
theorem QkR {w E:World} {u:Value} {r F:List Vl} (q:Qbk w u F) (h:Qbk E u r) (A:Below w.heap.size w E):Qbk w u r:=by
 obtain⟨a,c,rfl,I,h⟩:=h
 obtain⟨a0,c0,B,K,q⟩:=q
 simp only[Value.slice.injEq] at B
 obtain⟨rfl,D,rfl⟩:=B
 refine⟨a,c,rfl,I,?_⟩
 rcases h with h|⟨b,o,rfl,M,J⟩
 ·exact Or.inl h
 ·rcases q with q|⟨b0,O,e,j,N⟩
  ·left
   rw[q] at D
   exact List.length_eq_zero_iff.1 (by simpa using D)
  ·simp only[Option.some.injEq,Addr.mk.injEq,and_true] at e
   obtain⟨rfl,rfl⟩:=e
   refine Or.inr ⟨b,o,rfl,j,fun k hk=>?_⟩
   obtain⟨x,y,z⟩:=J k hk
   exact⟨(A.cell (p:=⟨b,o+k*3,none⟩) j).symm.trans x,(A.cell (p:=⟨b,o+k*3+1,none⟩) j).symm.trans y,(A.cell (p:=⟨b,o+k*3+2,none⟩) j).symm.trans z⟩
theorem DoAt.sorted {w W D:World} {j:Jb} {ss:List ByteArray} {css:List (List Cl)} {tA tB:Tb} {K Z A F q R E:Nat} {V vcA N vcB vrB B:Value} {us:List Value} {rs:List (List Vl)} (h:DoAt w j ss css tA tB K Z A F q R E V vcA N vcB vrB W) (z:Below W.heap.size W D) (M:QiH D B rs W.heap.size us) (hu:∀u∈us,∃r,Qbk w u r):LpAt w j ss css tA tB K Z A F q R E V vcA B vcB vrB rs (D.setCell ⟨A,1,none⟩ B):=by
 have e1:=h.jb0
 have e2:=h.jgc
 have e3:=h.gA
 have e4:=h.AR
 have e5:=h.mR
 have e6:=h.BR
 have e7:=h.qR
 have e8:=h.WR
 have e9:=h.gB
 have J:=h.AB
 have hsz:=z.size
 have I:=Qaa h.bel z
 have T:Below w.heap.size w (D.setCell ⟨A,1,none⟩ B):=I.setCell (p:=⟨A,1,none⟩) (by show w.heap.size<=A;omega) B
 have y:∀(b o:Nat) (x:Value),b<W.heap.size->b≠A->W.cell? ⟨b,o,none⟩=some x->(D.setCell ⟨A,1,none⟩ B).cell? ⟨b,o,none⟩=some x:=fun b o x hbl hne hx=>by
  rw[World.cell?_setCell_other _ _ _ _ (by intro e;simp at e;try omega)]
  exact cK z hbl hx
 obtain⟨w2,g1,g2,g3,g4,g5,g6⟩:=h.heads
 obtain⟨Bq,b1,b2,b3,b4⟩:=h.wher
 exact{
  bel:=T
  job:=fun k v hk=>y K k v (by omega) (by omega) (h.job k v hk)
  jb0:=h.jb0
  jgc:=h.jgc
  gA:=h.gA
  gB:=h.gB
  AB:=h.AB
  AR:=h.AR
  BR:=h.BR
  qR:=h.qR
  mR:=h.mR
  WR:=by simp;omega
  heads:=⟨w2,g1,(g2.trans (z.mono (by omega))).setCell (p:=⟨A,1,none⟩) g5 B,g3,g4,g5,g6⟩
  a0:=by
   rw[World.cell?_setCell_other _ _ _ _ (by intro e;simp at e)]
   exact cK z (by omega) h.a0
  a1:=World.cell?_setCell_same _ _ _ (by rw[(z.cell (p:=⟨A,1,none⟩) (show A<W.heap.size by omega)).trans h.a1])
  b0:=y F 0 _ (by omega) (fun e=>J e.symm) h.b0
  b1:=y F 1 _ (by omega) (fun e=>J e.symm) h.b1
  src:=by
   obtain⟨a,c,rfl,M⟩:=M
   refine⟨a,c,rfl,fun k hk=>?_⟩
   rcases M with rfl|⟨g,rfl,ap,U,O⟩
   ·simp at hk
   ·obtain⟨u,x1,x2,x3⟩:=O k hk
    obtain⟨r,x4⟩:=hu u x2
    refine⟨g,0,u,rfl,by simpa using U,by omega,by omega,?_,QkR x4 x3 I⟩
    rw[World.cell?_setCell_other _ _ _ _ (by intro e;simp at e;try omega)]
    exact x1
  colsA:=h.colsA
  colsB:=h.colsB
  rowsB:=h.rowsB
  wher:=⟨Bq,b1,b2,QdT (Qaf b3 z) b1,b4⟩
  qc:=y q 0 _ (by omega) (by omega) h.qc
  rows:=fun i hi=>⟨y R i _ (by omega) (by omega) (h.rows i hi).1,by
   have:=(z.frozen (p:=⟨R,i,none⟩) (show R<W.heap.size by omega)).trans (h.rows i hi).2
   simpa using this⟩
  map:=(Below.heap_setCell D ⟨A,1,none⟩ B E (by show E≠A;omega)).trans ((z.block E (by omega)).trans h.map)}
theorem QjZ {w:World} {j:Jb} {ss:List ByteArray} {css:List (List Cl)} {tA tB:Tb} {vcA B vcB vrB:Value} {F:Ending->World->Prop} (I:j.code=4) (O:Qan tA.1 tA.2=true) (he:QaB tA.1 ss=0) (z:QfN B) (h:Qco w j ss css tA tB vcA vcB vrB (QaR (Qag tA.1 ss) tA.2) F):QgP w j ss css tA tB vcA B vcB vrB F:=by
 iterate 317 intro _
 intro jb gc cc A Bx q R mp vw W y
 obtain⟨ad,av,az,N⟩:=Qar O
 obtain⟨aa,ax,o⟩:=Qcb he
 obtain⟨Bq,b1,b2,b3,b4⟩:=y.wher
 obtain⟨ab,ac,rfl,aw,T,au,E⟩:=QfV b3 aa o
 have k1:W.cell? ⟨jb,1,none⟩=some (.int .i64 4):=(y.job 1 (.int .i64 j.code) rfl).trans (by rw[I])
 have a1:=y.a1
 have U:=y.aF 1
 have HR:=Hk h
 have K:=y.rowsA
 have ay:=Hk (Qbu o)
 have Z:=Hk (fun(W':World) (hW:W'=W)=>hW▸QeL B tA.2 ab 0 ac tA.1.length (Qag tA.1 ss) w W K y.bel z N ad (by omega) (by omega) T E (by simp[Qag];omega) (Qbu o) (QeR O _ (Qbu o)))
 rw[show(Qag tA.1 ss).length=ss.length by simp[Qag]] at Z
 obtain⟨ra,rc,rfl,-⟩:=K
 have HD:=Hk y
 clear h y b3 b4 E O N o he z
 conv=>arg 2;whnf
 go_upto_region 22 with fail
 rename_i K2 J K1 ar
 have HK:=Hk J
 clear J
 go_wp2_with (go_at_call 32;refine(Z.out _ rfl).mono ?_;rintro e w3 ⟨v',us,rfl,M,ae,D⟩;have c3:=cK D (World.block_lt_of_cell? W _ a1) a1;have f3:=(D.frozen (p:=⟨A,1,none⟩) (World.block_lt_of_cell? W _ a1)).trans U;have V:=Hk M;obtain⟨va,vc,rfl,-⟩:=M)
 exact HK.out _ _ (HR.out _ _ _ _ _ _ _ _ _ _ _ _ _ _ _ _ _ _ _ _ _ _ _ _ _ _ _ _ _ _ _ _ _ _ _ _ _ _ _ _ _ _ _ _ _ _ _ _ _ _ _ _ _ _ _ _ _ _ _ _ _ _ _ _ _ _ _ _ _ _ _ _ _ _ _ _ _ _ _ _ _ _ _ _ _ _ _ _ _ _ _ _ _ _ _ _ _ _ _ _ _ _ _ _ _ _ _ _ _ _ _ _ _ _ _ _ _ _ _ _ _ _ _ _ _ _ _ _ _ _ _ _ _ _ _ _ _ _ _ _ _ _ _ _ _ _ _ _ _ _ _ _ _ _ _ _ _ _ _ _ _ _ _ _ _ _ _ _ _ _ _ _ _ _ _ _ _ _ _ _ _ _ _ _ _ _ _ _ _ _ _ _ _ _ _ _ _ _ _ _ _ _ _ _ _ _ _ _ _ _ _ _ _ _ _ _ _ _ _ _ _ _ _ _ _ _ _ _ _ _ _ _ _ _ _ _ _ _ _ _ _ _ _ _ _ _ _ _ _ _ _ _ _ _ _ _ _ _ _ _ _ _ _ _ _ _ _ _ _ _ _ _ _ _ _ _ _ _ _ _ _ _ _ _ _ _ _ _ _ _ _ _ _ _ _ _ _ _ _ _ _ _ _ _ _ _ _ _ _ _ _ _ _ _ _ _ _ _ gc cc _ _ _ _ _ _ _ _ (HD.out.sorted D V.out ae))
theorem QiR {w:World} {j:Jb} {ss:List ByteArray} {css:List (List Cl)} {tA tB:Tb} {vcA D vcB vrB:Value} {I:Ending->World->Prop} (J:j.code=8) (U:Qan tA.1 tA.2=true) (he:QaB tA.1 ss=0) (x y:ByteArray) (Z:ss=[x,y]) (B:QfN D) (h:Qco w j ss css tA tB vcA vcB vrB (QaR ([pOf tA.1 x]) tA.2) I):QgP w j ss css tA tB vcA D vcB vrB I:=by
 iterate 317 intro _
 intro jb gc cc A Bx q R mp vw W z
 obtain⟨ai,aA,aE,M⟩:=Qar U
 obtain⟨ag,aC,o⟩:=Qcb he
 obtain⟨Bq,b1,b2,b3,b4⟩:=z.wher
 obtain⟨ab,ac,rfl,aB,V,aa,F⟩:=QfV b3 ag o
 have k1:W.cell? ⟨jb,1,none⟩=some (.int .i64 8):=(z.job 1 (.int .i64 j.code) rfl).trans (by rw[J])
 have a1:=z.a1
 have ad:=z.aF 1
 have HR:=Hk h
 have N:=z.rowsA
 have aD:=Hk (Qbu o)
 subst Z
 have hx:=Qbu o (pOf tA.1 x) (by simp[Qag,pOf])
 have T:∀k∈[pOf tA.1 x],k<tA.1.length:=fun k hk=>by simp at hk;rw[hk];exact hx
 have HC:=Hk (fun(W':World) (hW:W'=W)=>hW▸QeL D tA.2 ab 0 ac tA.1.length [pOf tA.1 x] w W N z.bel B M ai (by omega) (by omega) V (fun i hi=>by
  simp only[List.length_singleton] at hi
  obtain rfl:i=0:=by omega
  have:=F 0 (by simp[Qag])
  simpa [Qag,pOf] using this) (by simp) T (QeR U _ T))
 simp only[List.length_singleton] at HC
 have ao:(1:Int)<=(ac:Int):=by simp at aa;omega
 obtain⟨ra,rc,rfl,-⟩:=N
 have HD:=Hk z
 clear h z b3 b4 F U M o he B
 conv=>arg 2;whnf
 go_upto_region 22 with fail
 rename_i K2 K K1 az
 have HK:=Hk K
 clear K
 go_wp2_with (go_at_call 32;refine(HC.out _ rfl).mono ?_;rintro e w3 ⟨v',us,rfl,O,aj,E⟩;have c3:=cK E (World.block_lt_of_cell? W _ a1) a1;have f3:=(E.frozen (p:=⟨A,1,none⟩) (World.block_lt_of_cell? W _ a1)).trans ad;have ae:=Hk O;obtain⟨va,vc,rfl,-⟩:=O)
 exact HK.out _ _ (HR.out _ _ _ _ _ _ _ _ _ _ _ _ _ _ _ _ _ _ _ _ _ _ _ _ _ _ _ _ _ _ _ _ _ _ _ _ _ _ _ _ _ _ _ _ _ _ _ _ _ _ _ _ _ _ _ _ _ _ _ _ _ _ _ _ _ _ _ _ _ _ _ _ _ _ _ _ _ _ _ _ _ _ _ _ _ _ _ _ _ _ _ _ _ _ _ _ _ _ _ _ _ _ _ _ _ _ _ _ _ _ _ _ _ _ _ _ _ _ _ _ _ _ _ _ _ _ _ _ _ _ _ _ _ _ _ _ _ _ _ _ _ _ _ _ _ _ _ _ _ _ _ _ _ _ _ _ _ _ _ _ _ _ _ _ _ _ _ _ _ _ _ _ _ _ _ _ _ _ _ _ _ _ _ _ _ _ _ _ _ _ _ _ _ _ _ _ _ _ _ _ _ _ _ _ _ _ _ _ _ _ _ _ _ _ _ _ _ _ _ _ _ _ _ _ _ _ _ _ _ _ _ _ _ _ _ _ _ _ _ _ _ _ _ _ _ _ _ _ _ _ _ _ _ _ _ _ _ _ _ _ _ _ _ _ _ _ _ _ _ _ _ _ _ _ _ _ _ _ _ _ _ _ _ _ _ _ _ _ _ _ _ _ _ _ _ _ _ _ _ _ _ _ _ _ _ _ _ _ _ _ _ _ _ _ _ _ _ _ gc cc _ _ _ _ _ _ _ _ (HD.out.sorted E ae.out aj))
end Go.Proofs.YtofidnijfnhpaaaGreatDoor
