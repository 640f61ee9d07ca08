import Derived.Test.YtedflhiflomoeaaGreatDoorWalkI
set_option linter.unusedSimpArgs false
set_option linter.unusedVariables false
namespace Go.Proofs.YtedflhiflomoeaaGreatDoor
open Go.RowKit

/-- A text; a token: its kind, its text, where it stands. -/
abbrev By := List UInt8
abbrev Tk := Nat × By × Nat
abbrev ba (l : By) : ByteArray := ⟨l.toArray⟩
/-- What comes of reading: a number and a place, or what was read and the tokens behind it. -/
abbrev PE (α : Type) := Except (Int × Nat) (α × List Tk)

def blankB (c : UInt8) : Bool := c == 32 || c == 10
def lowB (c : UInt8) : Bool := 97 ≤ c.toNat && c.toNat ≤ 122
def digB (c : UInt8) : Bool := 48 ≤ c.toNat && c.toNat ≤ 57
def lowdigB (c : UInt8) : Bool := lowB c || digB c
/-- How many bytes at a text's beginning are such. -/
def runL (p : UInt8 → Bool) (l : By) : Nat := (l.takeWhile p).length
def marksL : List By := [[60, 62], [60, 61], [62, 61], [60], [62], [61], [43], [45], [42], [44], [59], [58], [46]]
/-- The token at a text's beginning: its kind, its length. -/
def firstL : By → Option (Nat × Nat)
  | [] => none
  | c :: r =>
    if lowB c then some (0, runL lowdigB (c :: r))
    else if digB c then some (1, runL digB (c :: r))
    else if c == 39 then (r.findIdx? (· == 39)).map fun n => (2, n + 2)
    else (marksL.find? fun m => m.isPrefixOf (c :: r)).map fun m => (3, m.length)
/-- A text's tokens, from a byte on, behind so many others. -/
def toksL : Nat → By → Nat → Nat → Except (Int × Nat) (List Tk)
  | 0, _, _, _ => .ok []
  | g + 1, l, at', n =>
    if l.drop (runL blankB l) = [] then .ok []
    else match firstL (l.drop (runL blankB l)) with
      | none => .error (3, at' + runL blankB l)
      | some (k, len) =>
        if n = 400 then .error (4, at' + runL blankB l)
        else match toksL g ((l.drop (runL blankB l)).drop len) (at' + runL blankB l + len) (n + 1) with
          | .error e => .error e
          | .ok ts => .ok ((k, (l.drop (runL blankB l)).take len, at' + runL blankB l) :: ts)
/-- All tokens, and the end. -/
def tokensL (l : By) : Except (Int × Nat) (List Tk) :=
  match toksL (l.length + 1) l 0 0 with
  | .error e => .error e
  | .ok ts => .ok (ts ++ [(4, [], l.length)])

def kindT (ts : List Tk) : Nat := match ts with | t :: _ => t.1 | [] => 4
def textT (ts : List Tk) : By := match ts with | t :: _ => t.2.1 | [] => []
def hereT (ts : List Tk) : Nat := match ts with | t :: _ => t.2.2 | [] => 0
def wrongP {α : Type} (c : Int) (ts : List Tk) : PE α := .error (c, hereT ts)
def mustP (x : By) (ts : List Tk) : PE Nat := if textT ts = x then .ok (hereT ts, ts.tail) else wrongP 3 ts
def nameP (ts : List Tk) : PE By := if kindT ts ≠ 0 then wrongP 3 ts else if 10 < (textT ts).length then wrongP 4 ts else .ok (textT ts, ts.tail)
def atoiN (l : By) : Int := match Lib.atoiAll l with | .ok n => n | .range => Lib.atoiSat l | _ => 0
def numP (most : Int) (ts : List Tk) : PE Int := if kindT ts ≠ 1 then wrongP 3 ts else if most < atoiN (textT ts) then wrongP 4 ts else .ok (atoiN (textT ts), ts.tail)
def innerL (l : By) : By := (l.drop 1).take (l.length - 2)
def quoP (ts : List Tk) : PE By := if kindT ts ≠ 2 then wrongP 3 ts else if rightValueB 2 0 (innerL (textT ts)) = false then wrongP 4 ts else .ok (innerL (textT ts), ts.tail)
def oneOfP (xs : List By) (ts : List Tk) : PE By := if textT ts ∈ xs then .ok (textT ts, ts.tail) else wrongP 3 ts
/-- A column, or a value. -/
abbrev Ag := By × Int × Int × By
def argP (ts : List Tk) : PE Ag :=
  if kindT ts = 0 then (nameP ts).map fun x => ((x.1, 0, 0, []), x.2)
  else if kindT ts = 2 then (quoP ts).map fun x => (([], 2, 0, x.1), x.2)
  else if textT ts = [45] then (numP 1000000000 ts.tail).map fun x => (([], 1, -x.1, []), x.2)
  else (numP 1000000000 ts).map fun x => (([], 1, x.1, []), x.2)
/-- Names behind commas. -/
def moreP : Nat → List By → List Tk → PE (List By)
  | 0, acc, ts => .ok (acc, ts)
  | g + 1, acc, ts => if textT ts = [44] then (nameP ts.tail).bind fun x => moreP g (acc ++ [x.1]) x.2 else .ok (acc, ts)
def namesP (ts : List Tk) : PE (List By) := (nameP ts).bind fun x => moreP x.2.length [x.1] x.2

structure FIn where
  at_ : Nat
  name : By
  cols : List (By × Int)
structure FJob where
  at_ : Nat
  code : Int
  outs : List By
  ins : List By
  cols : List By
  op : By
  left : Ag
  right : Ag
  retry : Int
structure FOut where
  at_ : Nat
  name : By
  from_ : By
structure Flw where
  ins : List FIn
  jobs : List FJob
  outs : List FOut

def wIn : By := [105, 110]
def wJob : By := [106, 111, 98]
def wOut : By := [111, 117, 116]
def wInt : By := [105, 110, 116]
def wText : By := [116, 101, 120, 116]
def wRetry : By := [114, 101, 116, 114, 121]
def wWhere : By := [119, 104, 101, 114, 101]
def wBy : By := [98, 121]
def wSum : By := [115, 117, 109]
def wMax : By := [109, 97, 120]
def verbsL : List By := [[102, 105, 108, 116, 101, 114], [115, 101, 116], [112, 114, 111, 106, 101, 99, 116], [115, 111, 114, 116], [117, 110, 105, 111, 110], [100, 105, 115, 116, 105, 110, 99, 116], [106, 111, 105, 110], [103, 114, 111, 117, 112], [115, 112, 108, 105, 116]]
def columnP (ts : List Tk) : PE (By × Int) := (nameP ts).bind fun x =>
  if textT x.2 = wInt then .ok ((x.1, 1), x.2.tail) else if textT x.2 = wText then .ok ((x.1, 2), x.2.tail) else wrongP 3 x.2
def colsP : Nat → List (By × Int) → List Tk → PE (List (By × Int))
  | 0, acc, ts => .ok (acc, ts)
  | g + 1, acc, ts => if textT ts = [44] then (columnP ts.tail).bind fun x => colsP g (acc ++ [x.1]) x.2 else .ok (acc, ts)
def inputP (ts : List Tk) : PE FIn :=
  (mustP wIn ts).bind fun a => (nameP a.2).bind fun n => (mustP [58] n.2).bind fun c => (columnP c.2).bind fun x => (colsP x.2.length [x.1] x.2).bind fun l =>
  (mustP [59] l.2).bind fun e => .ok (⟨a.1, n.1, l.1⟩, e.2)
def codeP (ts : List Tk) : PE Int := match verbsL.findIdx? (· == textT ts) with
  | some i => .ok ((i : Int) + 1, ts.tail)
  | none => wrongP 3 ts
def cmpL : List By := [[61], [60, 62], [60], [60, 61], [62], [62, 61]]
def ariL : List By := [[43], [45], [42]]
def agg0 : Ag := ([], 0, 0, [])
/-- What a job does; its place, what it makes, how often it may fail are told ahead. -/
def bodyP (at_ : Nat) (outs : List By) (retry : Int) (ts : List Tk) : PE FJob :=
  (codeP ts).bind fun c => (nameP c.2).bind fun i =>
  if c.1 = 1 ∨ c.1 = 9 then
    (mustP wWhere i.2).bind fun m => (nameP m.2).bind fun l => (oneOfP cmpL l.2).bind fun o => (argP o.2).bind fun r =>
    .ok (⟨at_, c.1, outs, [i.1], [], o.1, (l.1, 0, 0, []), r.1, retry⟩, r.2)
  else if c.1 = 2 then
    (mustP [58] i.2).bind fun m => (nameP m.2).bind fun n => (mustP [61] n.2).bind fun q => (argP q.2).bind fun l => (oneOfP ariL l.2).bind fun o => (argP o.2).bind fun r =>
    .ok (⟨at_, c.1, outs, [i.1], [n.1], o.1, l.1, r.1, retry⟩, r.2)
  else if c.1 = 3 ∨ c.1 = 4 then
    (mustP wBy i.2).bind fun m => (namesP m.2).bind fun n =>
    .ok (⟨at_, c.1, outs, [i.1], n.1, [], agg0, agg0, retry⟩, n.2)
  else if c.1 = 5 then
    (mustP [44] i.2).bind fun m => (nameP m.2).bind fun n =>
    .ok (⟨at_, c.1, outs, [i.1, n.1], [], [], agg0, agg0, retry⟩, n.2)
  else if c.1 = 7 then
    (mustP [46] i.2).bind fun m => (nameP m.2).bind fun a => (mustP [44] a.2).bind fun q => (nameP q.2).bind fun j => (mustP [46] j.2).bind fun d => (nameP d.2).bind fun b =>
    .ok (⟨at_, c.1, outs, [i.1, j.1], [a.1, b.1], [], agg0, agg0, retry⟩, b.2)
  else if c.1 = 8 then
    (mustP wBy i.2).bind fun m => (nameP m.2).bind fun a => (oneOfP [wSum, wMax] a.2).bind fun o => (nameP o.2).bind fun b =>
    .ok (⟨at_, c.1, outs, [i.1], [a.1, b.1], o.1, agg0, agg0, retry⟩, b.2)
  else .ok (⟨at_, c.1, outs, [i.1], [], [], agg0, agg0, retry⟩, i.2)
def retryP (ts : List Tk) : PE Int := if textT ts = wRetry then numP 5 ts.tail else .ok (0, ts)
def jobP (ts : List Tk) : PE FJob :=
  (mustP wJob ts).bind fun a => (namesP a.2).bind fun o => (retryP o.2).bind fun r => (mustP [61] r.2).bind fun q => (bodyP a.1 o.1 r.1 q.2).bind fun j => (mustP [59] j.2).bind fun e => .ok (j.1, e.2)
def publishP (ts : List Tk) : PE FOut :=
  (mustP wOut ts).bind fun a => (nameP a.2).bind fun n => (mustP [61] n.2).bind fun q => (nameP q.2).bind fun f => (mustP [59] f.2).bind fun e => .ok (⟨a.1, n.1, f.1⟩, e.2)
/-- Parts of one kind, as long as they begin so. -/
def partsP {α : Type} (x : By) (p : List Tk → PE α) : Nat → List α → List Tk → PE (List α)
  | 0, acc, ts => .ok (acc, ts)
  | g + 1, acc, ts => if textT ts = x then (if acc.length = 16 then wrongP 4 ts else (p ts).bind fun y => partsP x p g (acc ++ [y.1]) y.2) else .ok (acc, ts)
def lastP (f : Flw) (ts : List Tk) : Except (Int × Nat) Flw :=
  if textT ts = wIn ∧ f.ins.length = 16 then .error (4, hereT ts)
  else if textT ts = wJob ∧ f.jobs.length = 16 then .error (4, hereT ts)
  else if kindT ts ≠ 4 then .error (3, hereT ts) else .ok f
def flowP (ts : List Tk) : Except (Int × Nat) Flw :=
  (partsP wIn inputP ts.length [] ts).bind fun i => (partsP wJob jobP i.2.length [] i.2).bind fun j => (partsP wOut publishP j.2.length [] j.2).bind fun o => lastP ⟨i.1, j.1, o.1⟩ o.2
def parseF (l : By) : Except (Int × Nat) Flw := (tokensL l).bind flowP
end Go.Proofs.YtedflhiflomoeaaGreatDoor
