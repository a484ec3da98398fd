/- The document's grammar as plain functions over tokens. -/
import Derived.Test.YtijbiedblahmhaaDoorJoint3
namespace Go.Proofs.YtijbiedblahmhaaDoor
open Go.RowKit

/-- what comes of reading a node: the node, whether a name or a place without brackets was read last, and the tokens left; or those at which it is given up -/
inductive PR where
  | ok (t : Nd) (b : Bool) (l : List Tok)
  | bad (l : List Tok)
/-- what comes of reading a list: names, nodes, and the tokens left -/
inductive PL where
  | ok (ns : List ByteArray) (ts : List Nd) (l : List Tok)
  | bad (l : List Tok)
def PR.bind (x : PR) (k : Nd → Bool → List Tok → PR) : PR := match x with | .ok t b l => k t b l | .bad l => .bad l
def PR.bindL (x : PR) (k : Nd → Bool → List Tok → PL) : PL := match x with | .ok t b l => k t b l | .bad l => .bad l
def PL.bind (x : PL) (k : List ByteArray → List Nd → List Tok → PR) : PR := match x with | .ok ns ts l => k ns ts l | .bad l => .bad l
theorem PR.bind_ok (t : Nd) (b : Bool) (l : List Tok) (k : Nd → Bool → List Tok → PR) : (PR.ok t b l).bind k = k t b l := rfl
theorem PR.bind_bad (l : List Tok) (k : Nd → Bool → List Tok → PR) : (PR.bad l).bind k = .bad l := rfl
theorem PR.bindL_ok (t : Nd) (b : Bool) (l : List Tok) (k : Nd → Bool → List Tok → PL) : (PR.ok t b l).bindL k = k t b l := rfl
theorem PR.bindL_bad (l : List Tok) (k : Nd → Bool → List Tok → PL) : (PR.bad l).bindL k = .bad l := rfl
theorem PL.bind_ok (ns : List ByteArray) (ts : List Nd) (l : List Tok) (k : List ByteArray → List Nd → List Tok → PR) : (PL.ok ns ts l).bind k = k ns ts l := rfl
theorem PL.bind_bad (l : List Tok) (k : List ByteArray → List Nd → List Tok → PR) : (PL.bad l).bind k = .bad l := rfl

def bz : ByteArray := ⟨#[]⟩
/-- a node of a kind and kids alone -/
def ndK (k : Int) (ks : List Nd) : Nd := .mk k 0 0 bz [] ks 0
def ndO (k o : Int) (ks : List Nd) : Nd := .mk k o 0 bz [] ks 0
def ndS (k : Int) (s : ByteArray) (ks : List Nd) : Nd := .mk k 0 0 s [] ks 0

/-- the token that comes -/
def cur (l : List Tok) : Tok := l.headD Tok.zero
/-- is a token this key or sign? -/
def isT (t : Tok) (x : List UInt8) : Bool := (t.kind == 2 || t.kind == 5) && t.text.data.toList == x
def isH (l : List Tok) (x : List UInt8) : Bool := isT (cur l) x
/-- a name comes (or a key, too) -/
def isW (key : Bool) (l : List Tok) : Bool := (cur l).kind == 1 || (key && (cur l).kind == 2)
def must (x : List UInt8) (l : List Tok) (k : List Tok → PR) : PR := if isH l x then k l.tail else .bad l
def mustL (x : List UInt8) (l : List Tok) (k : List Tok → PL) : PL := if isH l x then k l.tail else .bad l
def wordP (key : Bool) (l : List Tok) (k : ByteArray → List Tok → PR) : PR := if isW key l then k (cur l).text l.tail else .bad l
def wordL (key : Bool) (l : List Tok) (k : ByteArray → List Tok → PL) : PL := if isW key l then k (cur l).text l.tail else .bad l

/-- the signs of a rank: text, kind and number -/
def sgR (r : Nat) : List (List UInt8 × Int × Int) :=
  match r with
  | 1 => [([124, 124], 12, 0)]
  | 2 => [([38, 38], 11, 0)]
  | 3 => [([61, 61], 10, 10), ([33, 61], 10, 11)]
  | 4 => [([60], 10, 6), ([60, 61], 10, 7), ([62], 10, 8), ([62, 61], 10, 9)]
  | 5 => [([43], 10, 1), ([45], 10, 2)]
  | 6 => [([42], 10, 3), ([47], 10, 4), ([37], 10, 5)]
  | _ => []
def signF : List (List UInt8 × Int × Int) → List Tok → Option (Int × Int)
  | [], _ => none
  | (x, k, o) :: r, l => if isH l x then some (k, o) else signF r l
def signP (r : Nat) (l : List Tok) : Option (Int × Int) := signF (sgR r) l
/-- the built-in call that comes -/
def builtF : List Int → List Tok → Option Int
  | [], _ => none
  | o :: r, l => if isH l (builtT o).1 then some o else builtF r l
def builtP (l : List Tok) : Option Int := builtF [1, 2, 3, 4, 5, 6, 7] l

/-- the statement by which a name or a place becomes a value -/
def becomeN (e v : Nd) : Nd :=
  if e.kind = 13 then ndS 23 e.str (e.kids ++ [v]) else if e.kind = 14 then ndK 24 (e.kids ++ [v]) else .mk 22 0 0 e.str [] (e.kids ++ [v]) e.pl

/-- names, and the bracket behind them -/
def pPar : Nat → List ByteArray → List Tok → PL
  | 0, _, l => .bad l
  | f + 1, ns, l => wordL false l fun s l => if f ≠ 0 ∧ isH l [44] = true then pPar f (ns ++ [s]) l.tail else mustL [41] l fun l => .ok (ns ++ [s]) [] l
def pPars (l : List Tok) : PL := if isH l [41] then .ok [] [] l.tail else pPar 6 [] l

mutual
/-- an expression of a rank (1 or to 6 prod, 7 un) -/
def pRank : Nat → Nat → List Tok → PR
  | 0, _, l => .bad l
  | f + 1, r, l =>
    if 7 ≤ r then
      (if isH l [45] then (pRank f 7 l.tail).bind fun e _ l => .ok (ndO 9 1 [e]) false l
      else if isH l [33] then (pRank f 7 l.tail).bind fun e _ l => .ok (ndO 9 2 [e]) false l
      else pPost f l)
    else (pRank f (r + 1) l).bind fun e b l => pMore f r e b l
/-- signs of a rank, and what stands behind them -/
def pMore : Nat → Nat → Nd → Bool → List Tok → PR
  | 0, _, _, _, l => .bad l
  | f + 1, r, e, b, l =>
    match signP r l with
    | none => .ok e b l
    | some (k, o) => (pRank f (r + 1) l.tail).bind fun e' _ l => pMore f r (ndO k o [e, e']) false l
/-- an atom, and what stands behind it -/
def pPost : Nat → List Tok → PR
  | 0, l => .bad l
  | f + 1, l => (pAtom f l).bind fun e b l => pTail f e b l
def pTail : Nat → Nd → Bool → List Tok → PR
  | 0, _, _, l => .bad l
  | f + 1, e, b, l =>
    if isH l [46] then
      wordP true l.tail fun s l =>
        if isH l [40] then (pArgs f [e] l.tail).bind fun _ ks l => pTail f (ndS 16 s ks) false l
        else pTail f (ndS 13 s [e]) true l
    else if isH l [91] then
      (pRank f 1 l.tail).bind fun i _ l => must [93] l fun l => pTail f (ndK 14 [e, i]) true l
    else if isH l [40] then (pArgs f [e] l.tail).bind fun _ ks l => pTail f (ndK 15 ks) false l
    else .ok e b l
/-- up to six expressions behind what is there, and the bracket behind them -/
def pArgs : Nat → List Nd → List Tok → PL
  | 0, _, l => .bad l
  | f + 1, ks, l =>
    if isH l [41] then .ok [] ks l.tail
    else (pRank f 1 l).bindL fun e _ l => pArgsM f (ks ++ [e]) l
def pArgsM : Nat → List Nd → List Tok → PL
  | 0, _, l => .bad l
  | f + 1, ks, l =>
    if ks.length < 7 ∧ isH l [44] = true then (pRank f 1 l.tail).bindL fun e _ l => pArgsM f (ks ++ [e]) l
    else mustL [41] l fun l => .ok [] ks l
def pAtom : Nat → List Tok → PR
  | 0, l => .bad l
  | f + 1, l =>
    if (cur l).kind = 3 then .ok (.mk 3 0 (cur l).num bz [] [] 0) false l.tail
    else if (cur l).kind = 4 then .ok (ndS 4 (cur l).text []) false l.tail
    else if (cur l).kind = 1 then .ok (.mk 5 0 0 (cur l).text [] [] (cur l).pl) true l.tail
    else if isH l [110, 117, 108, 108] then .ok (ndK 1 []) false l.tail
    else if isH l [116, 114, 117, 101] then .ok (.mk 2 0 1 bz [] [] 0) false l.tail
    else if isH l [102, 97, 108, 115, 101] then .ok (ndK 2 []) false l.tail
    else if isH l [116, 104, 105, 115] then .ok (ndK 6 []) false l.tail
    else if isH l [40] then (pRank f 1 l.tail).bind fun e _ l => must [41] l fun l => .ok e false l
    else if isH l [123] then (pObj f l.tail).bind fun ns ks l => .ok (.mk 7 0 0 bz ns ks 0) false l
    else if isH l [102, 110] then
      must [40] l.tail fun l' => (pPars l').bind fun ns _ l' => (pBlock f l').bind fun b _ l' => .ok (.mk 8 0 0 bz ns b.kids (cur l).pl) false l'
    else match builtP l with
      | none => .bad l
      | some o => must [40] l.tail fun l => (pRank f 1 l).bind fun e _ l =>
          if (builtT o).2 = 2 then must [44] l fun l => (pRank f 1 l).bind fun e' _ l => must [41] l fun l => .ok (ndO 17 o [e, e']) false l
          else must [41] l fun l => .ok (ndO 17 o [e]) false l
/-- names with expressions, and the brace behind them -/
def pObj : Nat → List Tok → PL
  | 0, l => .bad l
  | f + 1, l => if isH l [125] then .ok [] [] l.tail else pField f [] [] l
def pField : Nat → List ByteArray → List Nd → List Tok → PL
  | 0, _, _, l => .bad l
  | f + 1, ns, ks, l => wordL true l fun s l => mustL [58] l fun l => (pRank f 1 l).bindL fun e _ l => pObjM f (ns ++ [s]) (ks ++ [e]) l
def pObjM : Nat → List ByteArray → List Nd → List Tok → PL
  | 0, _, _, l => .bad l
  | f + 1, ns, ks, l =>
    if ks.length < 40 ∧ isH l [44] = true then pField f ns ks l.tail
    else mustL [125] l fun l => .ok ns ks l
/-- statements in braces -/
def pBlock : Nat → List Tok → PR
  | 0, l => .bad l
  | f + 1, l => must [123] l fun l => (pStmts f [] l).bind fun _ ks l => must [125] l fun l => .ok (ndK 29 ks) false l
/-- as many statements as there are, or may be -/
def pStmts : Nat → List Nd → List Tok → PL
  | 0, _, l => .bad l
  | f + 1, ks, l =>
    if ks.length < 40 ∧ isH l [125] = false ∧ (cur l).kind ≠ 6 then (pStmt f l).bindL fun e _ l => pStmts f (ks ++ [e]) l
    else .ok [] ks l
/-- what an if or a while asks -/
def pAsk : Nat → List Tok → PR
  | 0, l => .bad l
  | f + 1, l => must [40] l fun l => (pRank f 1 l).bind fun e _ l => must [41] l fun l => .ok e false l
def pStmt : Nat → List Tok → PR
  | 0, l => .bad l
  | f + 1, l =>
    if isH l [105, 102] then (pAsk f l.tail).bind fun e _ l => (pBlock f l).bind fun y _ l =>
      if isH l [101, 108, 115, 101] then (pBlock f l.tail).bind fun z _ l => .ok (ndK 28 [e, y, z]) false l else .ok (ndK 28 [e, y, ndK 29 []]) false l
    else if isH l [119, 104, 105, 108, 101] then (pAsk f l.tail).bind fun e _ l => (pBlock f l).bind fun y _ l => .ok (ndK 30 [e, y]) false l
    else (pShort f l).bind fun e _ l => must [59] l fun l => .ok e false l
def pShort : Nat → List Tok → PR
  | 0, l => .bad l
  | f + 1, l =>
    if isH l [108, 101, 116] then wordP false l.tail fun s l' => must [61] l' fun l' => (pRank f 1 l').bind fun e _ l' => .ok (.mk 21 0 0 s [] [e] (cur l.tail).pl) false l'
    else if isH l [112, 114, 105, 110, 116] then (pRank f 1 l.tail).bind fun e _ l => .ok (ndK 27 [e]) false l
    else if isH l [114, 101, 116, 117, 114, 110] then (pRank f 1 l.tail).bind fun e _ l => .ok (ndK 31 [e]) false l
    else if isH l [100, 101, 108, 101, 116, 101] then (pPost f l.tail).bind fun e b l =>
      if b = true ∧ e.kind ≠ 5 then .ok (if e.kind = 13 then ndS 25 e.str e.kids else ndK 26 e.kids) false l else .bad l
    else (pRank f 1 l).bind fun e b l =>
      if b = true ∧ isH l [61] = true then (pRank f 1 l.tail).bind fun v _ l => .ok (becomeN e v) false l else .ok (ndK 32 [e]) false l
end

/-- what a text's tokens tell: a program (or an expression); or those at which it is given up -/
def pWhole (f : Nat) (prog : Bool) (l : List Tok) : PR :=
  (if prog then (pStmts f [] l).bind fun _ ks l => .ok (ndK 29 ks) false l else pRank f 1 l).bind fun e _ l => if (cur l).kind = 6 then .ok e false l else .bad l

end Go.Proofs.YtijbiedblahmhaaDoor
