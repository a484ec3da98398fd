/- The document's grammar as plain functions over tokens. Right nodes, kind by kind. Whether a tree has few nodes, not too high, with short texts. What is read may be: right nodes, no more of them than tokens. -/
import Derived.Test.YtijbiedblahmhaaDoorNdRight
import Derived.Test.YtijbiedblahmhaaDoorNdPlain
namespace Go.Proofs.YtijbiedblahmhaaDoor
open Go.RowKit

/-- what comes of reading a node: the node, whether a name or a place without brackets was read last, and the tokens left; or those at which it is given up -/
inductive PR where
  | ok (t : Nd) (b : Bool) (l : List Tok)
  | bad (l : List Tok)
/-- what comes of reading a list: names, nodes, and the tokens left -/
inductive PL where
  | ok (ns : List ByteArray) (ts : List Nd) (l : List Tok)
  | bad (l : List Tok)
def PR.bind (x : PR) (k : Nd → Bool → List Tok → PR) : PR := match x with | .ok t b l => k t b l | .bad l => .bad l
def PR.bindL (x : PR) (k : Nd → Bool → List Tok → PL) : PL := match x with | .ok t b l => k t b l | .bad l => .bad l
def PL.bind (x : PL) (k : List ByteArray → List Nd → List Tok → PR) : PR := match x with | .ok ns ts l => k ns ts l | .bad l => .bad l
theorem PR.bind_ok (t : Nd) (b : Bool) (l : List Tok) (k : Nd → Bool → List Tok → PR) : (PR.ok t b l).bind k = k t b l := rfl
theorem PR.bind_bad (l : List Tok) (k : Nd → Bool → List Tok → PR) : (PR.bad l).bind k = .bad l := rfl
theorem PR.bindL_ok (t : Nd) (b : Bool) (l : List Tok) (k : Nd → Bool → List Tok → PL) : (PR.ok t b l).bindL k = k t b l := rfl
theorem PR.bindL_bad (l : List Tok) (k : Nd → Bool → List Tok → PL) : (PR.bad l).bindL k = .bad l := rfl
theorem PL.bind_ok (ns : List ByteArray) (ts : List Nd) (l : List Tok) (k : List ByteArray → List Nd → List Tok → PR) : (PL.ok ns ts l).bind k = k ns ts l := rfl
theorem PL.bind_bad (l : List Tok) (k : List ByteArray → List Nd → List Tok → PR) : (PL.bad l).bind k = .bad l := rfl

def bz : ByteArray := ⟨#[]⟩
/-- a node of a kind and kids alone -/
def ndK (k : Int) (ks : List Nd) : Nd := .mk k 0 0 bz [] ks 0
def ndO (k o : Int) (ks : List Nd) : Nd := .mk k o 0 bz [] ks 0
def ndS (k : Int) (s : ByteArray) (ks : List Nd) : Nd := .mk k 0 0 s [] ks 0

/-- the token that comes -/
def cur (l : List Tok) : Tok := l.headD Tok.zero
/-- is a token this key or sign? -/
def isT (t : Tok) (x : List UInt8) : Bool := (t.kind == 2 || t.kind == 5) && t.text.data.toList == x
def isH (l : List Tok) (x : List UInt8) : Bool := isT (cur l) x
/-- a name comes (or a key, too) -/
def isW (key : Bool) (l : List Tok) : Bool := (cur l).kind == 1 || (key && (cur l).kind == 2)
def must (x : List UInt8) (l : List Tok) (k : List Tok → PR) : PR := if isH l x then k l.tail else .bad l
def mustL (x : List UInt8) (l : List Tok) (k : List Tok → PL) : PL := if isH l x then k l.tail else .bad l
def wordP (key : Bool) (l : List Tok) (k : ByteArray → List Tok → PR) : PR := if isW key l then k (cur l).text l.tail else .bad l
def wordL (key : Bool) (l : List Tok) (k : ByteArray → List Tok → PL) : PL := if isW key l then k (cur l).text l.tail else .bad l

/-- the signs of a rank: text, kind and number -/
def sgR (r : Nat) : List (List UInt8 × Int × Int) :=
  match r with
  | 1 => [([124, 124], 12, 0)]
  | 2 => [([38, 38], 11, 0)]
  | 3 => [([61, 61], 10, 10), ([33, 61], 10, 11)]
  | 4 => [([60], 10, 6), ([60, 61], 10, 7), ([62], 10, 8), ([62, 61], 10, 9)]
  | 5 => [([43], 10, 1), ([45], 10, 2)]
  | 6 => [([42], 10, 3), ([47], 10, 4), ([37], 10, 5)]
  | _ => []
def signF : List (List UInt8 × Int × Int) → List Tok → Option (Int × Int)
  | [], _ => none
  | (x, k, o) :: r, l => if isH l x then some (k, o) else signF r l
def signP (r : Nat) (l : List Tok) : Option (Int × Int) := signF (sgR r) l
/-- the built-in call that comes -/
def builtF : List Int → List Tok → Option Int
  | [], _ => none
  | o :: r, l => if isH l (builtT o).1 then some o else builtF r l
def builtP (l : List Tok) : Option Int := builtF [1, 2, 3, 4, 5, 6, 7] l

/-- the statement by which a name or a place becomes a value -/
def becomeN (e v : Nd) : Nd :=
  if e.kind = 13 then ndS 23 e.str (e.kids ++ [v]) else if e.kind = 14 then ndK 24 (e.kids ++ [v]) else .mk 22 0 0 e.str [] (e.kids ++ [v]) e.pl

/-- names, and the bracket behind them -/
def pPar : Nat → List ByteArray → List Tok → PL
  | 0, _, l => .bad l
  | f + 1, ns, l => wordL false l fun s l => if f ≠ 0 ∧ isH l [44] = true then pPar f (ns ++ [s]) l.tail else mustL [41] l fun l => .ok (ns ++ [s]) [] l
def pPars (l : List Tok) : PL := if isH l [41] then .ok [] [] l.tail else pPar 6 [] l

mutual
/-- an expression of a rank (1 or to 6 prod, 7 un) -/
def pRank : Nat → Nat → List Tok → PR
  | 0, _, l => .bad l
  | f + 1, r, l =>
    if 7 ≤ r then
      (if isH l [45] then (pRank f 7 l.tail).bind fun e _ l => .ok (ndO 9 1 [e]) false l
      else if isH l [33] then (pRank f 7 l.tail).bind fun e _ l => .ok (ndO 9 2 [e]) false l
      else pPost f l)
    else (pRank f (r + 1) l).bind fun e b l => pMore f r e b l
/-- signs of a rank, and what stands behind them -/
def pMore : Nat → Nat → Nd → Bool → List Tok → PR
  | 0, _, _, _, l => .bad l
  | f + 1, r, e, b, l =>
    match signP r l with
    | none => .ok e b l
    | some (k, o) => (pRank f (r + 1) l.tail).bind fun e' _ l => pMore f r (ndO k o [e, e']) false l
/-- an atom, and what stands behind it -/
def pPost : Nat → List Tok → PR
  | 0, l => .bad l
  | f + 1, l => (pAtom f l).bind fun e b l => pTail f e b l
def pTail : Nat → Nd → Bool → List Tok → PR
  | 0, _, _, l => .bad l
  | f + 1, e, b, l =>
    if isH l [46] then
      wordP true l.tail fun s l =>
        if isH l [40] then (pArgs f [e] l.tail).bind fun _ ks l => pTail f (ndS 16 s ks) false l
        else pTail f (ndS 13 s [e]) true l
    else if isH l [91] then
      (pRank f 1 l.tail).bind fun i _ l => must [93] l fun l => pTail f (ndK 14 [e, i]) true l
    else if isH l [40] then (pArgs f [e] l.tail).bind fun _ ks l => pTail f (ndK 15 ks) false l
    else .ok e b l
/-- up to six expressions behind what is there, and the bracket behind them -/
def pArgs : Nat → List Nd → List Tok → PL
  | 0, _, l => .bad l
  | f + 1, ks, l =>
    if isH l [41] then .ok [] ks l.tail
    else (pRank f 1 l).bindL fun e _ l => pArgsM f (ks ++ [e]) l
def pArgsM : Nat → List Nd → List Tok → PL
  | 0, _, l => .bad l
  | f + 1, ks, l =>
    if ks.length < 7 ∧ isH l [44] = true then (pRank f 1 l.tail).bindL fun e _ l => pArgsM f (ks ++ [e]) l
    else mustL [41] l fun l => .ok [] ks l
def pAtom : Nat → List Tok → PR
  | 0, l => .bad l
  | f + 1, l =>
    if (cur l).kind = 3 then .ok (.mk 3 0 (cur l).num bz [] [] 0) false l.tail
    else if (cur l).kind = 4 then .ok (ndS 4 (cur l).text []) false l.tail
    else if (cur l).kind = 1 then .ok (.mk 5 0 0 (cur l).text [] [] (cur l).pl) true l.tail
    else if isH l [110, 117, 108, 108] then .ok (ndK 1 []) false l.tail
    else if isH l [116, 114, 117, 101] then .ok (.mk 2 0 1 bz [] [] 0) false l.tail
    else if isH l [102, 97, 108, 115, 101] then .ok (ndK 2 []) false l.tail
    else if isH l [116, 104, 105, 115] then .ok (ndK 6 []) false l.tail
    else if isH l [40] then (pRank f 1 l.tail).bind fun e _ l => must [41] l fun l => .ok e false l
    else if isH l [123] then (pObj f l.tail).bind fun ns ks l => .ok (.mk 7 0 0 bz ns ks 0) false l
    else if isH l [102, 110] then
      must [40] l.tail fun l' => (pPars l').bind fun ns _ l' => (pBlock f l').bind fun b _ l' => .ok (.mk 8 0 0 bz ns b.kids (cur l).pl) false l'
    else match builtP l with
      | none => .bad l
      | some o => must [40] l.tail fun l => (pRank f 1 l).bind fun e _ l =>
          if (builtT o).2 = 2 then must [44] l fun l => (pRank f 1 l).bind fun e' _ l => must [41] l fun l => .ok (ndO 17 o [e, e']) false l
          else must [41] l fun l => .ok (ndO 17 o [e]) false l
/-- names with expressions, and the brace behind them -/
def pObj : Nat → List Tok → PL
  | 0, l => .bad l
  | f + 1, l => if isH l [125] then .ok [] [] l.tail else pField f [] [] l
def pField : Nat → List ByteArray → List Nd → List Tok → PL
  | 0, _, _, l => .bad l
  | f + 1, ns, ks, l => wordL true l fun s l => mustL [58] l fun l => (pRank f 1 l).bindL fun e _ l => pObjM f (ns ++ [s]) (ks ++ [e]) l
def pObjM : Nat → List ByteArray → List Nd → List Tok → PL
  | 0, _, _, l => .bad l
  | f + 1, ns, ks, l =>
    if ks.length < 40 ∧ isH l [44] = true then pField f ns ks l.tail
    else mustL [125] l fun l => .ok ns ks l
/-- statements in braces -/
def pBlock : Nat → List Tok → PR
  | 0, l => .bad l
  | f + 1, l => must [123] l fun l => (pStmts f [] l).bind fun _ ks l => must [125] l fun l => .ok (ndK 29 ks) false l
/-- as many statements as there are, or may be -/
def pStmts : Nat → List Nd → List Tok → PL
  | 0, _, l => .bad l
  | f + 1, ks, l =>
    if ks.length < 40 ∧ isH l [125] = false ∧ (cur l).kind ≠ 6 then (pStmt f l).bindL fun e _ l => pStmts f (ks ++ [e]) l
    else .ok [] ks l
/-- what an if or a while asks -/
def pAsk : Nat → List Tok → PR
  | 0, l => .bad l
  | f + 1, l => must [40] l fun l => (pRank f 1 l).bind fun e _ l => must [41] l fun l => .ok e false l
def pStmt : Nat → List Tok → PR
  | 0, l => .bad l
  | f + 1, l =>
    if isH l [105, 102] then (pAsk f l.tail).bind fun e _ l => (pBlock f l).bind fun y _ l =>
      if isH l [101, 108, 115, 101] then (pBlock f l.tail).bind fun z _ l => .ok (ndK 28 [e, y, z]) false l else .ok (ndK 28 [e, y, ndK 29 []]) false l
    else if isH l [119, 104, 105, 108, 101] then (pAsk f l.tail).bind fun e _ l => (pBlock f l).bind fun y _ l => .ok (ndK 30 [e, y]) false l
    else (pShort f l).bind fun e _ l => must [59] l fun l => .ok e false l
def pShort : Nat → List Tok → PR
  | 0, l => .bad l
  | f + 1, l =>
    if isH l [108, 101, 116] then wordP false l.tail fun s l' => must [61] l' fun l' => (pRank f 1 l').bind fun e _ l' => .ok (.mk 21 0 0 s [] [e] (cur l.tail).pl) false l'
    else if isH l [112, 114, 105, 110, 116] then (pRank f 1 l.tail).bind fun e _ l => .ok (ndK 27 [e]) false l
    else if isH l [114, 101, 116, 117, 114, 110] then (pRank f 1 l.tail).bind fun e _ l => .ok (ndK 31 [e]) false l
    else if isH l [100, 101, 108, 101, 116, 101] then (pPost f l.tail).bind fun e b l =>
      if b = true ∧ e.kind ≠ 5 then .ok (if e.kind = 13 then ndS 25 e.str e.kids else ndK 26 e.kids) false l else .bad l
    else (pRank f 1 l).bind fun e b l =>
      if b = true ∧ isH l [61] = true then (pRank f 1 l.tail).bind fun v _ l => .ok (becomeN e v) false l else .ok (ndK 32 [e]) false l
end

/-- what a text's tokens tell: a program (or an expression); or those at which it is given up -/
def pWhole (f : Nat) (prog : Bool) (l : List Tok) : PR :=
  (if prog then (pStmts f [] l).bind fun _ ks l => .ok (ndK 29 ks) false l else pRank f 1 l).bind fun e _ l => if (cur l).kind = 6 then .ok e false l else .bad l

end Go.Proofs.YtijbiedblahmhaaDoor

namespace Go.Proofs.YtijbiedblahmhaaDoor
open Go.RowKit

/-- right as an expression (1), a statement (2), a block (3) -/
inductive Rt : Nat → Nd → Prop
  | null (p : Int) : Rt 1 (.mk 1 0 0 bz [] [] p)
  | bool (n : Int) (p : Int) (hn : n = 0 ∨ n = 1) : Rt 1 (.mk 2 0 n bz [] [] p)
  | int (n : Int) (p : Int) (hn : 0 ≤ n ∧ n ≤ 4611686018427387903) : Rt 1 (.mk 3 0 n bz [] [] p)
  | str (s : ByteArray) (p : Int) (hs : s.size ≤ 256) : Rt 1 (.mk 4 0 0 s [] [] p)
  | name (s : ByteArray) (p : Int) (hs : properB s = true) : Rt 1 (.mk 5 0 0 s [] [] p)
  | this (p : Int) : Rt 1 (.mk 6 0 0 bz [] [] p)
  | obj (ns : List ByteArray) (ks : List Nd) (p : Int) (hl : ks.length = ns.length) (hm : ns.length ≤ 40) (hns : ∀ s ∈ ns, propB s = true) (hk : ∀ x ∈ ks, Rt 1 x) : Rt 1 (.mk 7 0 0 bz ns ks p)
  | fn (ns : List ByteArray) (ks : List Nd) (p : Int) (hm : ns.length ≤ 6) (hns : ∀ s ∈ ns, properB s = true) (hc : ks.length ≤ 40) (hk : ∀ x ∈ ks, Rt 2 x) : Rt 1 (.mk 8 0 0 bz ns ks p)
  | un (o : Int) (x : Nd) (p : Int) (ho : o = 1 ∨ o = 2) (hx : Rt 1 x) : Rt 1 (.mk 9 o 0 bz [] [x] p)
  | bin (o : Int) (x : Nd) (y : Nd) (p : Int) (ho : 1 ≤ o ∧ o ≤ 11) (hx : Rt 1 x) (hy : Rt 1 y) : Rt 1 (.mk 10 o 0 bz [] [x, y] p)
  | and (x : Nd) (y : Nd) (p : Int) (hx : Rt 1 x) (hy : Rt 1 y) : Rt 1 (.mk 11 0 0 bz [] [x, y] p)
  | or (x : Nd) (y : Nd) (p : Int) (hx : Rt 1 x) (hy : Rt 1 y) : Rt 1 (.mk 12 0 0 bz [] [x, y] p)
  | get (s : ByteArray) (x : Nd) (p : Int) (hs : propB s = true) (hx : Rt 1 x) : Rt 1 (.mk 13 0 0 s [] [x] p)
  | index (x : Nd) (y : Nd) (p : Int) (hx : Rt 1 x) (hy : Rt 1 y) : Rt 1 (.mk 14 0 0 bz [] [x, y] p)
  | call (x : Nd) (ks : List Nd) (p : Int) (hc : ks.length ≤ 6) (hx : Rt 1 x) (hk : ∀ x ∈ ks, Rt 1 x) : Rt 1 (.mk 15 0 0 bz [] (x :: ks) p)
  | meth (s : ByteArray) (x : Nd) (ks : List Nd) (p : Int) (hs : propB s = true) (hc : ks.length ≤ 6) (hx : Rt 1 x) (hk : ∀ x ∈ ks, Rt 1 x) : Rt 1 (.mk 16 0 0 s [] (x :: ks) p)
  | built (o : Int) (ks : List Nd) (p : Int) (ho : 1 ≤ o ∧ o ≤ 7) (hc : ks.length = (builtT o).2) (hk : ∀ x ∈ ks, Rt 1 x) : Rt 1 (.mk 17 o 0 bz [] ks p)
  | slet (s : ByteArray) (x : Nd) (p : Int) (hs : properB s = true) (hx : Rt 1 x) : Rt 2 (.mk 21 0 0 s [] [x] p)
  | assign (s : ByteArray) (x : Nd) (p : Int) (hs : properB s = true) (hx : Rt 1 x) : Rt 2 (.mk 22 0 0 s [] [x] p)
  | set (s : ByteArray) (x : Nd) (y : Nd) (p : Int) (hs : propB s = true) (hx : Rt 1 x) (hy : Rt 1 y) : Rt 2 (.mk 23 0 0 s [] [x, y] p)
  | setix (x : Nd) (y : Nd) (z : Nd) (p : Int) (hx : Rt 1 x) (hy : Rt 1 y) (hz : Rt 1 z) : Rt 2 (.mk 24 0 0 bz [] [x, y, z] p)
  | del (s : ByteArray) (x : Nd) (p : Int) (hs : propB s = true) (hx : Rt 1 x) : Rt 2 (.mk 25 0 0 s [] [x] p)
  | delix (x : Nd) (y : Nd) (p : Int) (hx : Rt 1 x) (hy : Rt 1 y) : Rt 2 (.mk 26 0 0 bz [] [x, y] p)
  | print (x : Nd) (p : Int) (hx : Rt 1 x) : Rt 2 (.mk 27 0 0 bz [] [x] p)
  | iff (x : Nd) (y : Nd) (z : Nd) (p : Int) (hx : Rt 1 x) (hy : Rt 3 y) (hz : Rt 3 z) : Rt 2 (.mk 28 0 0 bz [] [x, y, z] p)
  | whil (x : Nd) (y : Nd) (p : Int) (hx : Rt 1 x) (hy : Rt 3 y) : Rt 2 (.mk 30 0 0 bz [] [x, y] p)
  | ret (x : Nd) (p : Int) (hx : Rt 1 x) : Rt 2 (.mk 31 0 0 bz [] [x] p)
  | sexpr (x : Nd) (p : Int) (hx : Rt 1 x) : Rt 2 (.mk 32 0 0 bz [] [x] p)
  | block (ks : List Nd) (p : Int) (hc : ks.length ≤ 40) (hk : ∀ x ∈ ks, Rt 2 x) : Rt 3 (.mk 29 0 0 bz [] ks p)

theorem size_none {s : ByteArray} (h : s.size = 0) : s = bz := by
  apply ByteArray.ext
  have : s.data.size = 0 := h
  exact Array.eq_empty_of_size_eq_zero this
theorem len_two {ks : List Nd} (h : ks.length = 2) : ∃ x y, ks = [x, y] := by
  match ks, h with
  | [x, y], _ => exact ⟨x, y, rfl⟩
theorem len_three {ks : List Nd} (h : ks.length = 3) : ∃ x y z, ks = [x, y, z] := by
  match ks, h with
  | [x, y, z], _ => exact ⟨x, y, z, rfl⟩
theorem rightL_get {k : Int} : ∀ (ks : List Nd) (i : Nat), rightL ks k i = true → ∀ (j : Nat) (h : j < ks.length), rightN ks[j] (wantK k (i + j)) = true
  | x :: r, i, h, 0, _ => by rw [rightL, Bool.and_eq_true] at h; exact h.1
  | x :: r, i, h, j + 1, hj => by
    rw [rightL, Bool.and_eq_true] at h
    have := rightL_get r (i + 1) h.2 j (by simpa using hj)
    rw [show i + (j + 1) = i + 1 + j by omega]
    simpa using this
theorem right_parts {k o n : Int} {s : ByteArray} {ns : List ByteArray} {ks : List Nd} {p : Int} {a : Nat} (h : rightN (.mk k o n s ns ks p) a = true) :
    isK k = a ∧ opOk k o = true ∧ numOk k n = true ∧ strOk k s = true ∧ nsOk k ns = true ∧ cntOk k o ns.length ks.length = true ∧ ∀ (j : Nat) (h : j < ks.length), rightN ks[j] (wantK k j) = true := by
  rw [rightN_mk, Bool.and_eq_true, Bool.and_eq_true, beq_iff_eq] at h
  obtain ⟨h1, h2, h3⟩ := h
  unfold okB at h2
  simp only [Bool.and_eq_true] at h2
  obtain ⟨a1, a2, a3, a4, a5⟩ := h2
  exact ⟨h1, a1, a2, a3, a4, a5, fun j hj => by simpa using rightL_get ks 0 h3 j hj⟩
theorem right_all {k : Int} {ks : List Nd} {a : Nat} (hw : ∀ i, wantK k i = a) (h : ∀ (j : Nat) (h : j < ks.length), rightN ks[j] (wantK k j) = true) : ∀ x ∈ ks, rightN x a = true := by
  intro x hx
  obtain ⟨j, hj, rfl⟩ := List.getElem_of_mem hx
  rw [← hw j]; exact h j hj
theorem isK_list {k : Int} {a : Nat} (h : isK k = a) (ha : a = 1 ∨ a = 2 ∨ a = 3) :
    (a = 1 ∧ (k = 1 ∨ k = 2 ∨ k = 3 ∨ k = 4 ∨ k = 5 ∨ k = 6 ∨ k = 7 ∨ k = 8 ∨ k = 9 ∨ k = 10 ∨ k = 11 ∨ k = 12 ∨ k = 13 ∨ k = 14 ∨ k = 15 ∨ k = 16 ∨ k = 17)) ∨
    (a = 2 ∧ (k = 21 ∨ k = 22 ∨ k = 23 ∨ k = 24 ∨ k = 25 ∨ k = 26 ∨ k = 27 ∨ k = 28 ∨ k = 30 ∨ k = 31 ∨ k = 32)) ∨ (a = 3 ∧ k = 29) := by
  unfold isK at h
  split at h
  · omega
  split at h
  · omega
  split at h
  · omega
  · omega

theorem of_right1 {o n : Int} {s : ByteArray} {ns : List ByteArray} {ks : List Nd} {p : Int} (ih : ∀ x ∈ ks, ∀ a, (a = 1 ∨ a = 2 ∨ a = 3) → rightN x a = true → Rt a x) (h : rightN (.mk 1 o n s ns ks p) 1 = true) : Rt 1 (.mk 1 o n s ns ks p) := by
  obtain ⟨-, ho, hn, hs, hns, hc, hk⟩ := right_parts h
  obtain rfl : o = 0 := by simpa [opOk] using ho
  obtain rfl : n = 0 := by simpa [numOk] using hn
  obtain rfl : s = bz := size_none (by simpa [strOk] using hs)
  obtain rfl : ns = [] := by simpa [nsOk] using hns
  obtain rfl : ks = [] := by simpa [cntOk] using hc
  exact .null p

theorem of_right2 {o n : Int} {s : ByteArray} {ns : List ByteArray} {ks : List Nd} {p : Int} (ih : ∀ x ∈ ks, ∀ a, (a = 1 ∨ a = 2 ∨ a = 3) → rightN x a = true → Rt a x) (h : rightN (.mk 2 o n s ns ks p) 1 = true) : Rt 1 (.mk 2 o n s ns ks p) := by
  obtain ⟨-, ho, hn, hs, hns, hc, hk⟩ := right_parts h
  obtain rfl : o = 0 := by simpa [opOk] using ho
  have hn' : n = 0 ∨ n = 1 := by simpa [numOk] using hn
  obtain rfl : s = bz := size_none (by simpa [strOk] using hs)
  obtain rfl : ns = [] := by simpa [nsOk] using hns
  obtain rfl : ks = [] := by simpa [cntOk] using hc
  exact .bool n p hn'

theorem of_right3 {o n : Int} {s : ByteArray} {ns : List ByteArray} {ks : List Nd} {p : Int} (ih : ∀ x ∈ ks, ∀ a, (a = 1 ∨ a = 2 ∨ a = 3) → rightN x a = true → Rt a x) (h : rightN (.mk 3 o n s ns ks p) 1 = true) : Rt 1 (.mk 3 o n s ns ks p) := by
  obtain ⟨-, ho, hn, hs, hns, hc, hk⟩ := right_parts h
  obtain rfl : o = 0 := by simpa [opOk] using ho
  have hn' : 0 ≤ n ∧ n ≤ 4611686018427387903 := by simpa [numOk] using hn
  obtain rfl : s = bz := size_none (by simpa [strOk] using hs)
  obtain rfl : ns = [] := by simpa [nsOk] using hns
  obtain rfl : ks = [] := by simpa [cntOk] using hc
  exact .int n p hn'

theorem of_right4 {o n : Int} {s : ByteArray} {ns : List ByteArray} {ks : List Nd} {p : Int} (ih : ∀ x ∈ ks, ∀ a, (a = 1 ∨ a = 2 ∨ a = 3) → rightN x a = true → Rt a x) (h : rightN (.mk 4 o n s ns ks p) 1 = true) : Rt 1 (.mk 4 o n s ns ks p) := by
  obtain ⟨-, ho, hn, hs, hns, hc, hk⟩ := right_parts h
  obtain rfl : o = 0 := by simpa [opOk] using ho
  obtain rfl : n = 0 := by simpa [numOk] using hn
  have hs' : s.size ≤ 256 := by simpa [strOk] using hs
  obtain rfl : ns = [] := by simpa [nsOk] using hns
  obtain rfl : ks = [] := by simpa [cntOk] using hc
  exact .str s p hs'

theorem of_right5 {o n : Int} {s : ByteArray} {ns : List ByteArray} {ks : List Nd} {p : Int} (ih : ∀ x ∈ ks, ∀ a, (a = 1 ∨ a = 2 ∨ a = 3) → rightN x a = true → Rt a x) (h : rightN (.mk 5 o n s ns ks p) 1 = true) : Rt 1 (.mk 5 o n s ns ks p) := by
  obtain ⟨-, ho, hn, hs, hns, hc, hk⟩ := right_parts h
  obtain rfl : o = 0 := by simpa [opOk] using ho
  obtain rfl : n = 0 := by simpa [numOk] using hn
  have hs' : properB s = true := by simpa [strOk] using hs
  obtain rfl : ns = [] := by simpa [nsOk] using hns
  obtain rfl : ks = [] := by simpa [cntOk] using hc
  exact .name s p hs'

theorem of_right6 {o n : Int} {s : ByteArray} {ns : List ByteArray} {ks : List Nd} {p : Int} (ih : ∀ x ∈ ks, ∀ a, (a = 1 ∨ a = 2 ∨ a = 3) → rightN x a = true → Rt a x) (h : rightN (.mk 6 o n s ns ks p) 1 = true) : Rt 1 (.mk 6 o n s ns ks p) := by
  obtain ⟨-, ho, hn, hs, hns, hc, hk⟩ := right_parts h
  obtain rfl : o = 0 := by simpa [opOk] using ho
  obtain rfl : n = 0 := by simpa [numOk] using hn
  obtain rfl : s = bz := size_none (by simpa [strOk] using hs)
  obtain rfl : ns = [] := by simpa [nsOk] using hns
  obtain rfl : ks = [] := by simpa [cntOk] using hc
  exact .this p

theorem of_right7 {o n : Int} {s : ByteArray} {ns : List ByteArray} {ks : List Nd} {p : Int} (ih : ∀ x ∈ ks, ∀ a, (a = 1 ∨ a = 2 ∨ a = 3) → rightN x a = true → Rt a x) (h : rightN (.mk 7 o n s ns ks p) 1 = true) : Rt 1 (.mk 7 o n s ns ks p) := by
  obtain ⟨-, ho, hn, hs, hns, hc, hk⟩ := right_parts h
  obtain rfl : o = 0 := by simpa [opOk] using ho
  obtain rfl : n = 0 := by simpa [numOk] using hn
  obtain rfl : s = bz := size_none (by simpa [strOk] using hs)
  have hns' : ns.length ≤ 40 ∧ ∀ s ∈ ns, propB s = true := by simpa [nsOk] using hns
  have hc' : ks.length = ns.length := by simpa [cntOk] using hc
  exact .obj ns ks p hc' hns'.1 hns'.2 (fun x hx => ih x hx 1 (by simp) (right_all (by intro i; simp [wantK]) hk x hx))

theorem of_right8 {o n : Int} {s : ByteArray} {ns : List ByteArray} {ks : List Nd} {p : Int} (ih : ∀ x ∈ ks, ∀ a, (a = 1 ∨ a = 2 ∨ a = 3) → rightN x a = true → Rt a x) (h : rightN (.mk 8 o n s ns ks p) 1 = true) : Rt 1 (.mk 8 o n s ns ks p) := by
  obtain ⟨-, ho, hn, hs, hns, hc, hk⟩ := right_parts h
  obtain rfl : o = 0 := by simpa [opOk] using ho
  obtain rfl : n = 0 := by simpa [numOk] using hn
  obtain rfl : s = bz := size_none (by simpa [strOk] using hs)
  have hns' : ns.length ≤ 6 ∧ ∀ s ∈ ns, properB s = true := by simpa [nsOk] using hns
  have hc' : ks.length ≤ 40 := by simpa [cntOk] using hc
  exact .fn ns ks p hns'.1 hns'.2 hc' (fun x hx => ih x hx 2 (by simp) (right_all (by intro i; simp [wantK]) hk x hx))

theorem of_right9 {o n : Int} {s : ByteArray} {ns : List ByteArray} {ks : List Nd} {p : Int} (ih : ∀ x ∈ ks, ∀ a, (a = 1 ∨ a = 2 ∨ a = 3) → rightN x a = true → Rt a x) (h : rightN (.mk 9 o n s ns ks p) 1 = true) : Rt 1 (.mk 9 o n s ns ks p) := by
  obtain ⟨-, ho, hn, hs, hns, hc, hk⟩ := right_parts h
  have ho' : o = 1 ∨ o = 2 := by simp [opOk] at ho; omega
  obtain rfl : n = 0 := by simpa [numOk] using hn
  obtain rfl : s = bz := size_none (by simpa [strOk] using hs)
  obtain rfl : ns = [] := by simpa [nsOk] using hns
  have hc' : ks.length = 1 := by simpa [cntOk] using hc
  obtain ⟨x, rfl⟩ := List.length_eq_one_iff.1 hc'
  exact .un o x p ho' (ih x (by simp) 1 (by simp) (by simpa [wantK] using hk 0 (by simp)))

theorem of_right10 {o n : Int} {s : ByteArray} {ns : List ByteArray} {ks : List Nd} {p : Int} (ih : ∀ x ∈ ks, ∀ a, (a = 1 ∨ a = 2 ∨ a = 3) → rightN x a = true → Rt a x) (h : rightN (.mk 10 o n s ns ks p) 1 = true) : Rt 1 (.mk 10 o n s ns ks p) := by
  obtain ⟨-, ho, hn, hs, hns, hc, hk⟩ := right_parts h
  have ho' : 1 ≤ o ∧ o ≤ 11 := by simpa [opOk] using ho
  obtain rfl : n = 0 := by simpa [numOk] using hn
  obtain rfl : s = bz := size_none (by simpa [strOk] using hs)
  obtain rfl : ns = [] := by simpa [nsOk] using hns
  have hc' : ks.length = 2 := by simpa [cntOk] using hc
  obtain ⟨x, y, rfl⟩ := len_two hc'
  exact .bin o x y p ho' (ih x (by simp) 1 (by simp) (by simpa [wantK] using hk 0 (by simp))) (ih y (by simp) 1 (by simp) (by simpa [wantK] using hk 1 (by simp)))

theorem of_right11 {o n : Int} {s : ByteArray} {ns : List ByteArray} {ks : List Nd} {p : Int} (ih : ∀ x ∈ ks, ∀ a, (a = 1 ∨ a = 2 ∨ a = 3) → rightN x a = true → Rt a x) (h : rightN (.mk 11 o n s ns ks p) 1 = true) : Rt 1 (.mk 11 o n s ns ks p) := by
  obtain ⟨-, ho, hn, hs, hns, hc, hk⟩ := right_parts h
  obtain rfl : o = 0 := by simpa [opOk] using ho
  obtain rfl : n = 0 := by simpa [numOk] using hn
  obtain rfl : s = bz := size_none (by simpa [strOk] using hs)
  obtain rfl : ns = [] := by simpa [nsOk] using hns
  have hc' : ks.length = 2 := by simpa [cntOk] using hc
  obtain ⟨x, y, rfl⟩ := len_two hc'
  exact .and x y p (ih x (by simp) 1 (by simp) (by simpa [wantK] using hk 0 (by simp))) (ih y (by simp) 1 (by simp) (by simpa [wantK] using hk 1 (by simp)))

theorem of_right12 {o n : Int} {s : ByteArray} {ns : List ByteArray} {ks : List Nd} {p : Int} (ih : ∀ x ∈ ks, ∀ a, (a = 1 ∨ a = 2 ∨ a = 3) → rightN x a = true → Rt a x) (h : rightN (.mk 12 o n s ns ks p) 1 = true) : Rt 1 (.mk 12 o n s ns ks p) := by
  obtain ⟨-, ho, hn, hs, hns, hc, hk⟩ := right_parts h
  obtain rfl : o = 0 := by simpa [opOk] using ho
  obtain rfl : n = 0 := by simpa [numOk] using hn
  obtain rfl : s = bz := size_none (by simpa [strOk] using hs)
  obtain rfl : ns = [] := by simpa [nsOk] using hns
  have hc' : ks.length = 2 := by simpa [cntOk] using hc
  obtain ⟨x, y, rfl⟩ := len_two hc'
  exact .or x y p (ih x (by simp) 1 (by simp) (by simpa [wantK] using hk 0 (by simp))) (ih y (by simp) 1 (by simp) (by simpa [wantK] using hk 1 (by simp)))

theorem of_right13 {o n : Int} {s : ByteArray} {ns : List ByteArray} {ks : List Nd} {p : Int} (ih : ∀ x ∈ ks, ∀ a, (a = 1 ∨ a = 2 ∨ a = 3) → rightN x a = true → Rt a x) (h : rightN (.mk 13 o n s ns ks p) 1 = true) : Rt 1 (.mk 13 o n s ns ks p) := by
  obtain ⟨-, ho, hn, hs, hns, hc, hk⟩ := right_parts h
  obtain rfl : o = 0 := by simpa [opOk] using ho
  obtain rfl : n = 0 := by simpa [numOk] using hn
  have hs' : propB s = true := by simpa [strOk] using hs
  obtain rfl : ns = [] := by simpa [nsOk] using hns
  have hc' : ks.length = 1 := by simpa [cntOk] using hc
  obtain ⟨x, rfl⟩ := List.length_eq_one_iff.1 hc'
  exact .get s x p hs' (ih x (by simp) 1 (by simp) (by simpa [wantK] using hk 0 (by simp)))

theorem of_right14 {o n : Int} {s : ByteArray} {ns : List ByteArray} {ks : List Nd} {p : Int} (ih : ∀ x ∈ ks, ∀ a, (a = 1 ∨ a = 2 ∨ a = 3) → rightN x a = true → Rt a x) (h : rightN (.mk 14 o n s ns ks p) 1 = true) : Rt 1 (.mk 14 o n s ns ks p) := by
  obtain ⟨-, ho, hn, hs, hns, hc, hk⟩ := right_parts h
  obtain rfl : o = 0 := by simpa [opOk] using ho
  obtain rfl : n = 0 := by simpa [numOk] using hn
  obtain rfl : s = bz := size_none (by simpa [strOk] using hs)
  obtain rfl : ns = [] := by simpa [nsOk] using hns
  have hc' : ks.length = 2 := by simpa [cntOk] using hc
  obtain ⟨x, y, rfl⟩ := len_two hc'
  exact .index x y p (ih x (by simp) 1 (by simp) (by simpa [wantK] using hk 0 (by simp))) (ih y (by simp) 1 (by simp) (by simpa [wantK] using hk 1 (by simp)))

theorem of_right15 {o n : Int} {s : ByteArray} {ns : List ByteArray} {ks : List Nd} {p : Int} (ih : ∀ x ∈ ks, ∀ a, (a = 1 ∨ a = 2 ∨ a = 3) → rightN x a = true → Rt a x) (h : rightN (.mk 15 o n s ns ks p) 1 = true) : Rt 1 (.mk 15 o n s ns ks p) := by
  obtain ⟨-, ho, hn, hs, hns, hc, hk⟩ := right_parts h
  obtain rfl : o = 0 := by simpa [opOk] using ho
  obtain rfl : n = 0 := by simpa [numOk] using hn
  obtain rfl : s = bz := size_none (by simpa [strOk] using hs)
  obtain rfl : ns = [] := by simpa [nsOk] using hns
  have hc' : 1 ≤ ks.length ∧ ks.length ≤ 7 := by simpa [cntOk] using hc
  cases ks with
  | nil => simp at hc'
  | cons x ks =>
    have hr := fun y hy => ih y hy 1 (by simp) (right_all (by intro i; simp [wantK]) hk y hy)
    exact .call x ks p (by simp at hc'; omega) (hr x (by simp)) (fun y hy => hr y (by simp [hy]))

theorem of_right16 {o n : Int} {s : ByteArray} {ns : List ByteArray} {ks : List Nd} {p : Int} (ih : ∀ x ∈ ks, ∀ a, (a = 1 ∨ a = 2 ∨ a = 3) → rightN x a = true → Rt a x) (h : rightN (.mk 16 o n s ns ks p) 1 = true) : Rt 1 (.mk 16 o n s ns ks p) := by
  obtain ⟨-, ho, hn, hs, hns, hc, hk⟩ := right_parts h
  obtain rfl : o = 0 := by simpa [opOk] using ho
  obtain rfl : n = 0 := by simpa [numOk] using hn
  have hs' : propB s = true := by simpa [strOk] using hs
  obtain rfl : ns = [] := by simpa [nsOk] using hns
  have hc' : 1 ≤ ks.length ∧ ks.length ≤ 7 := by simpa [cntOk] using hc
  cases ks with
  | nil => simp at hc'
  | cons x ks =>
    have hr := fun y hy => ih y hy 1 (by simp) (right_all (by intro i; simp [wantK]) hk y hy)
    exact .meth s x ks p hs' (by simp at hc'; omega) (hr x (by simp)) (fun y hy => hr y (by simp [hy]))

theorem of_right17 {o n : Int} {s : ByteArray} {ns : List ByteArray} {ks : List Nd} {p : Int} (ih : ∀ x ∈ ks, ∀ a, (a = 1 ∨ a = 2 ∨ a = 3) → rightN x a = true → Rt a x) (h : rightN (.mk 17 o n s ns ks p) 1 = true) : Rt 1 (.mk 17 o n s ns ks p) := by
  obtain ⟨-, ho, hn, hs, hns, hc, hk⟩ := right_parts h
  have ho' : 1 ≤ o ∧ o ≤ 7 := by simpa [opOk] using ho
  obtain rfl : n = 0 := by simpa [numOk] using hn
  obtain rfl : s = bz := size_none (by simpa [strOk] using hs)
  obtain rfl : ns = [] := by simpa [nsOk] using hns
  have hc' : ks.length = (builtT o).2 := by simpa [cntOk] using hc
  exact .built o ks p ho' hc' (fun x hx => ih x hx 1 (by simp) (right_all (by intro i; simp [wantK]) hk x hx))

theorem of_right21 {o n : Int} {s : ByteArray} {ns : List ByteArray} {ks : List Nd} {p : Int} (ih : ∀ x ∈ ks, ∀ a, (a = 1 ∨ a = 2 ∨ a = 3) → rightN x a = true → Rt a x) (h : rightN (.mk 21 o n s ns ks p) 2 = true) : Rt 2 (.mk 21 o n s ns ks p) := by
  obtain ⟨-, ho, hn, hs, hns, hc, hk⟩ := right_parts h
  obtain rfl : o = 0 := by simpa [opOk] using ho
  obtain rfl : n = 0 := by simpa [numOk] using hn
  have hs' : properB s = true := by simpa [strOk] using hs
  obtain rfl : ns = [] := by simpa [nsOk] using hns
  have hc' : ks.length = 1 := by simpa [cntOk] using hc
  obtain ⟨x, rfl⟩ := List.length_eq_one_iff.1 hc'
  exact .slet s x p hs' (ih x (by simp) 1 (by simp) (by simpa [wantK] using hk 0 (by simp)))

theorem of_right22 {o n : Int} {s : ByteArray} {ns : List ByteArray} {ks : List Nd} {p : Int} (ih : ∀ x ∈ ks, ∀ a, (a = 1 ∨ a = 2 ∨ a = 3) → rightN x a = true → Rt a x) (h : rightN (.mk 22 o n s ns ks p) 2 = true) : Rt 2 (.mk 22 o n s ns ks p) := by
  obtain ⟨-, ho, hn, hs, hns, hc, hk⟩ := right_parts h
  obtain rfl : o = 0 := by simpa [opOk] using ho
  obtain rfl : n = 0 := by simpa [numOk] using hn
  have hs' : properB s = true := by simpa [strOk] using hs
  obtain rfl : ns = [] := by simpa [nsOk] using hns
  have hc' : ks.length = 1 := by simpa [cntOk] using hc
  obtain ⟨x, rfl⟩ := List.length_eq_one_iff.1 hc'
  exact .assign s x p hs' (ih x (by simp) 1 (by simp) (by simpa [wantK] using hk 0 (by simp)))

theorem of_right23 {o n : Int} {s : ByteArray} {ns : List ByteArray} {ks : List Nd} {p : Int} (ih : ∀ x ∈ ks, ∀ a, (a = 1 ∨ a = 2 ∨ a = 3) → rightN x a = true → Rt a x) (h : rightN (.mk 23 o n s ns ks p) 2 = true) : Rt 2 (.mk 23 o n s ns ks p) := by
  obtain ⟨-, ho, hn, hs, hns, hc, hk⟩ := right_parts h
  obtain rfl : o = 0 := by simpa [opOk] using ho
  obtain rfl : n = 0 := by simpa [numOk] using hn
  have hs' : propB s = true := by simpa [strOk] using hs
  obtain rfl : ns = [] := by simpa [nsOk] using hns
  have hc' : ks.length = 2 := by simpa [cntOk] using hc
  obtain ⟨x, y, rfl⟩ := len_two hc'
  exact .set s x y p hs' (ih x (by simp) 1 (by simp) (by simpa [wantK] using hk 0 (by simp))) (ih y (by simp) 1 (by simp) (by simpa [wantK] using hk 1 (by simp)))

theorem of_right24 {o n : Int} {s : ByteArray} {ns : List ByteArray} {ks : List Nd} {p : Int} (ih : ∀ x ∈ ks, ∀ a, (a = 1 ∨ a = 2 ∨ a = 3) → rightN x a = true → Rt a x) (h : rightN (.mk 24 o n s ns ks p) 2 = true) : Rt 2 (.mk 24 o n s ns ks p) := by
  obtain ⟨-, ho, hn, hs, hns, hc, hk⟩ := right_parts h
  obtain rfl : o = 0 := by simpa [opOk] using ho
  obtain rfl : n = 0 := by simpa [numOk] using hn
  obtain rfl : s = bz := size_none (by simpa [strOk] using hs)
  obtain rfl : ns = [] := by simpa [nsOk] using hns
  have hc' : ks.length = 3 := by simpa [cntOk] using hc
  obtain ⟨x, y, z, rfl⟩ := len_three hc'
  exact .setix x y z p (ih x (by simp) 1 (by simp) (by simpa [wantK] using hk 0 (by simp))) (ih y (by simp) 1 (by simp) (by simpa [wantK] using hk 1 (by simp))) (ih z (by simp) 1 (by simp) (by simpa [wantK] using hk 2 (by simp)))

theorem of_right25 {o n : Int} {s : ByteArray} {ns : List ByteArray} {ks : List Nd} {p : Int} (ih : ∀ x ∈ ks, ∀ a, (a = 1 ∨ a = 2 ∨ a = 3) → rightN x a = true → Rt a x) (h : rightN (.mk 25 o n s ns ks p) 2 = true) : Rt 2 (.mk 25 o n s ns ks p) := by
  obtain ⟨-, ho, hn, hs, hns, hc, hk⟩ := right_parts h
  obtain rfl : o = 0 := by simpa [opOk] using ho
  obtain rfl : n = 0 := by simpa [numOk] using hn
  have hs' : propB s = true := by simpa [strOk] using hs
  obtain rfl : ns = [] := by simpa [nsOk] using hns
  have hc' : ks.length = 1 := by simpa [cntOk] using hc
  obtain ⟨x, rfl⟩ := List.length_eq_one_iff.1 hc'
  exact .del s x p hs' (ih x (by simp) 1 (by simp) (by simpa [wantK] using hk 0 (by simp)))

theorem of_right26 {o n : Int} {s : ByteArray} {ns : List ByteArray} {ks : List Nd} {p : Int} (ih : ∀ x ∈ ks, ∀ a, (a = 1 ∨ a = 2 ∨ a = 3) → rightN x a = true → Rt a x) (h : rightN (.mk 26 o n s ns ks p) 2 = true) : Rt 2 (.mk 26 o n s ns ks p) := by
  obtain ⟨-, ho, hn, hs, hns, hc, hk⟩ := right_parts h
  obtain rfl : o = 0 := by simpa [opOk] using ho
  obtain rfl : n = 0 := by simpa [numOk] using hn
  obtain rfl : s = bz := size_none (by simpa [strOk] using hs)
  obtain rfl : ns = [] := by simpa [nsOk] using hns
  have hc' : ks.length = 2 := by simpa [cntOk] using hc
  obtain ⟨x, y, rfl⟩ := len_two hc'
  exact .delix x y p (ih x (by simp) 1 (by simp) (by simpa [wantK] using hk 0 (by simp))) (ih y (by simp) 1 (by simp) (by simpa [wantK] using hk 1 (by simp)))

theorem of_right27 {o n : Int} {s : ByteArray} {ns : List ByteArray} {ks : List Nd} {p : Int} (ih : ∀ x ∈ ks, ∀ a, (a = 1 ∨ a = 2 ∨ a = 3) → rightN x a = true → Rt a x) (h : rightN (.mk 27 o n s ns ks p) 2 = true) : Rt 2 (.mk 27 o n s ns ks p) := by
  obtain ⟨-, ho, hn, hs, hns, hc, hk⟩ := right_parts h
  obtain rfl : o = 0 := by simpa [opOk] using ho
  obtain rfl : n = 0 := by simpa [numOk] using hn
  obtain rfl : s = bz := size_none (by simpa [strOk] using hs)
  obtain rfl : ns = [] := by simpa [nsOk] using hns
  have hc' : ks.length = 1 := by simpa [cntOk] using hc
  obtain ⟨x, rfl⟩ := List.length_eq_one_iff.1 hc'
  exact .print x p (ih x (by simp) 1 (by simp) (by simpa [wantK] using hk 0 (by simp)))

theorem of_right28 {o n : Int} {s : ByteArray} {ns : List ByteArray} {ks : List Nd} {p : Int} (ih : ∀ x ∈ ks, ∀ a, (a = 1 ∨ a = 2 ∨ a = 3) → rightN x a = true → Rt a x) (h : rightN (.mk 28 o n s ns ks p) 2 = true) : Rt 2 (.mk 28 o n s ns ks p) := by
  obtain ⟨-, ho, hn, hs, hns, hc, hk⟩ := right_parts h
  obtain rfl : o = 0 := by simpa [opOk] using ho
  obtain rfl : n = 0 := by simpa [numOk] using hn
  obtain rfl : s = bz := size_none (by simpa [strOk] using hs)
  obtain rfl : ns = [] := by simpa [nsOk] using hns
  have hc' : ks.length = 3 := by simpa [cntOk] using hc
  obtain ⟨x, y, z, rfl⟩ := len_three hc'
  exact .iff x y z p (ih x (by simp) 1 (by simp) (by simpa [wantK] using hk 0 (by simp))) (ih y (by simp) 3 (by simp) (by simpa [wantK] using hk 1 (by simp))) (ih z (by simp) 3 (by simp) (by simpa [wantK] using hk 2 (by simp)))

theorem of_right30 {o n : Int} {s : ByteArray} {ns : List ByteArray} {ks : List Nd} {p : Int} (ih : ∀ x ∈ ks, ∀ a, (a = 1 ∨ a = 2 ∨ a = 3) → rightN x a = true → Rt a x) (h : rightN (.mk 30 o n s ns ks p) 2 = true) : Rt 2 (.mk 30 o n s ns ks p) := by
  obtain ⟨-, ho, hn, hs, hns, hc, hk⟩ := right_parts h
  obtain rfl : o = 0 := by simpa [opOk] using ho
  obtain rfl : n = 0 := by simpa [numOk] using hn
  obtain rfl : s = bz := size_none (by simpa [strOk] using hs)
  obtain rfl : ns = [] := by simpa [nsOk] using hns
  have hc' : ks.length = 2 := by simpa [cntOk] using hc
  obtain ⟨x, y, rfl⟩ := len_two hc'
  exact .whil x y p (ih x (by simp) 1 (by simp) (by simpa [wantK] using hk 0 (by simp))) (ih y (by simp) 3 (by simp) (by simpa [wantK] using hk 1 (by simp)))

theorem of_right31 {o n : Int} {s : ByteArray} {ns : List ByteArray} {ks : List Nd} {p : Int} (ih : ∀ x ∈ ks, ∀ a, (a = 1 ∨ a = 2 ∨ a = 3) → rightN x a = true → Rt a x) (h : rightN (.mk 31 o n s ns ks p) 2 = true) : Rt 2 (.mk 31 o n s ns ks p) := by
  obtain ⟨-, ho, hn, hs, hns, hc, hk⟩ := right_parts h
  obtain rfl : o = 0 := by simpa [opOk] using ho
  obtain rfl : n = 0 := by simpa [numOk] using hn
  obtain rfl : s = bz := size_none (by simpa [strOk] using hs)
  obtain rfl : ns = [] := by simpa [nsOk] using hns
  have hc' : ks.length = 1 := by simpa [cntOk] using hc
  obtain ⟨x, rfl⟩ := List.length_eq_one_iff.1 hc'
  exact .ret x p (ih x (by simp) 1 (by simp) (by simpa [wantK] using hk 0 (by simp)))

theorem of_right32 {o n : Int} {s : ByteArray} {ns : List ByteArray} {ks : List Nd} {p : Int} (ih : ∀ x ∈ ks, ∀ a, (a = 1 ∨ a = 2 ∨ a = 3) → rightN x a = true → Rt a x) (h : rightN (.mk 32 o n s ns ks p) 2 = true) : Rt 2 (.mk 32 o n s ns ks p) := by
  obtain ⟨-, ho, hn, hs, hns, hc, hk⟩ := right_parts h
  obtain rfl : o = 0 := by simpa [opOk] using ho
  obtain rfl : n = 0 := by simpa [numOk] using hn
  obtain rfl : s = bz := size_none (by simpa [strOk] using hs)
  obtain rfl : ns = [] := by simpa [nsOk] using hns
  have hc' : ks.length = 1 := by simpa [cntOk] using hc
  obtain ⟨x, rfl⟩ := List.length_eq_one_iff.1 hc'
  exact .sexpr x p (ih x (by simp) 1 (by simp) (by simpa [wantK] using hk 0 (by simp)))

theorem of_right29 {o n : Int} {s : ByteArray} {ns : List ByteArray} {ks : List Nd} {p : Int} (ih : ∀ x ∈ ks, ∀ a, (a = 1 ∨ a = 2 ∨ a = 3) → rightN x a = true → Rt a x) (h : rightN (.mk 29 o n s ns ks p) 3 = true) : Rt 3 (.mk 29 o n s ns ks p) := by
  obtain ⟨-, ho, hn, hs, hns, hc, hk⟩ := right_parts h
  obtain rfl : o = 0 := by simpa [opOk] using ho
  obtain rfl : n = 0 := by simpa [numOk] using hn
  obtain rfl : s = bz := size_none (by simpa [strOk] using hs)
  obtain rfl : ns = [] := by simpa [nsOk] using hns
  have hc' : ks.length ≤ 40 := by simpa [cntOk] using hc
  exact .block ks p hc' (fun x hx => ih x hx 2 (by simp) (right_all (by intro i; simp [wantK]) hk x hx))

theorem of_right (t : Nd) : ∀ a, (a = 1 ∨ a = 2 ∨ a = 3) → rightN t a = true → Rt a t := by
  refine Nd.ind (P := fun t => ∀ a, (a = 1 ∨ a = 2 ∨ a = 3) → rightN t a = true → Rt a t) ?_ t
  intro k o n s ns ks p ih a ha h
  have hk := (right_parts h).1
  rcases isK_list hk ha with ⟨rfl, h1⟩ | ⟨rfl, h2⟩ | ⟨rfl, rfl⟩
  · rcases h1 with rfl | rfl | rfl | rfl | rfl | rfl | rfl | rfl | rfl | rfl | rfl | rfl | rfl | rfl | rfl | rfl | rfl
    · exact of_right1 ih h
    · exact of_right2 ih h
    · exact of_right3 ih h
    · exact of_right4 ih h
    · exact of_right5 ih h
    · exact of_right6 ih h
    · exact of_right7 ih h
    · exact of_right8 ih h
    · exact of_right9 ih h
    · exact of_right10 ih h
    · exact of_right11 ih h
    · exact of_right12 ih h
    · exact of_right13 ih h
    · exact of_right14 ih h
    · exact of_right15 ih h
    · exact of_right16 ih h
    · exact of_right17 ih h
  · rcases h2 with rfl | rfl | rfl | rfl | rfl | rfl | rfl | rfl | rfl | rfl | rfl
    · exact of_right21 ih h
    · exact of_right22 ih h
    · exact of_right23 ih h
    · exact of_right24 ih h
    · exact of_right25 ih h
    · exact of_right26 ih h
    · exact of_right27 ih h
    · exact of_right28 ih h
    · exact of_right30 ih h
    · exact of_right31 ih h
    · exact of_right32 ih h
  · exact of_right29 ih h

/-- and back -/
theorem rightL_of {k : Int} : ∀ (ks : List Nd) (i : Nat), (∀ (j : Nat) (h : j < ks.length), rightN ks[j] (wantK k (i + j)) = true) → rightL ks k i = true
  | [], i, _ => by rw [rightL]
  | x :: r, i, h => by
    rw [rightL, Bool.and_eq_true]
    refine ⟨h 0 (by simp), rightL_of r (i + 1) fun j hj => ?_⟩
    have := h (j + 1) (by simpa using hj)
    rw [show i + (j + 1) = i + 1 + j by omega] at this
    simpa using this
theorem rightL_same {k : Int} {a : Nat} (hw : ∀ i, wantK k i = a) {ks : List Nd} (h : ∀ x ∈ ks, rightN x a = true) : rightL ks k 0 = true :=
  rightL_of ks 0 fun j hj => by rw [hw]; exact h _ (List.getElem_mem hj)
set_option linter.unusedSimpArgs false in
theorem to_right {a : Nat} {t : Nd} (h : Rt a t) : rightN t a = true := by
  have b0 : bz.size = 0 := rfl
  induction h with
  | null p => rw [rightN_mk]; simp [isK, okB, opOk, numOk, strOk, nsOk, cntOk, wantK, b0, rightL]
  | bool n p hn => rw [rightN_mk]; simp [isK, okB, opOk, numOk, strOk, nsOk, cntOk, wantK, b0, rightL, hn]
  | int n p hn => rw [rightN_mk]; simp [isK, okB, opOk, numOk, strOk, nsOk, cntOk, wantK, b0, rightL, hn]
  | str s p hs => rw [rightN_mk]; simp [isK, okB, opOk, numOk, strOk, nsOk, cntOk, wantK, b0, rightL, hs]
  | name s p hs => rw [rightN_mk]; simp [isK, okB, opOk, numOk, strOk, nsOk, cntOk, wantK, b0, rightL, hs]
  | this p => rw [rightN_mk]; simp [isK, okB, opOk, numOk, strOk, nsOk, cntOk, wantK, b0, rightL]
  | obj ns ks p hl hm hns hk ik => rw [rightN_mk, rightL_same (a := 1) (by intro i; simp [wantK]) ik]; simp [isK, okB, opOk, numOk, strOk, nsOk, cntOk, wantK, b0, hl, hm]; exact hns
  | fn ns ks p hm hns hc hk ik => rw [rightN_mk, rightL_same (a := 2) (by intro i; simp [wantK]) ik]; simp [isK, okB, opOk, numOk, strOk, nsOk, cntOk, wantK, b0, hc, hm]; exact hns
  | un o x p ho hx ix => rw [rightN_mk]; simp [isK, okB, opOk, numOk, strOk, nsOk, cntOk, wantK, b0, rightL, ho, ix]; omega
  | bin o x y p ho hx hy ix iy => rw [rightN_mk]; simp [isK, okB, opOk, numOk, strOk, nsOk, cntOk, wantK, b0, rightL, ho, ix, iy]
  | and x y p hx hy ix iy => rw [rightN_mk]; simp [isK, okB, opOk, numOk, strOk, nsOk, cntOk, wantK, b0, rightL, ix, iy]
  | or x y p hx hy ix iy => rw [rightN_mk]; simp [isK, okB, opOk, numOk, strOk, nsOk, cntOk, wantK, b0, rightL, ix, iy]
  | get s x p hs hx ix => rw [rightN_mk]; simp [isK, okB, opOk, numOk, strOk, nsOk, cntOk, wantK, b0, rightL, hs, ix]
  | index x y p hx hy ix iy => rw [rightN_mk]; simp [isK, okB, opOk, numOk, strOk, nsOk, cntOk, wantK, b0, rightL, ix, iy]
  | call  x ks p  hc hx hk ix ik => rw [rightN_mk, rightL_same (a := 1) (by intro i; simp [wantK]) (fun y hy => (List.mem_cons.1 hy).elim (fun e => e ▸ ix) (ik y))]; simp [isK, okB, opOk, numOk, strOk, nsOk, cntOk, wantK, b0]; omega
  | meth s x ks p hs hc hx hk ix ik => rw [rightN_mk, rightL_same (a := 1) (by intro i; simp [wantK]) (fun y hy => (List.mem_cons.1 hy).elim (fun e => e ▸ ix) (ik y))]; simp [isK, okB, opOk, numOk, strOk, nsOk, cntOk, wantK, b0, hs]; omega
  | built o ks p ho hc hk ik => rw [rightN_mk, rightL_same (a := 1) (by intro i; simp [wantK]) ik]; simp [isK, okB, opOk, numOk, strOk, nsOk, cntOk, wantK, b0, ho, hc]
  | slet s x p hs hx ix => rw [rightN_mk]; simp [isK, okB, opOk, numOk, strOk, nsOk, cntOk, wantK, b0, rightL, hs, ix]
  | assign s x p hs hx ix => rw [rightN_mk]; simp [isK, okB, opOk, numOk, strOk, nsOk, cntOk, wantK, b0, rightL, hs, ix]
  | set s x y p hs hx hy ix iy => rw [rightN_mk]; simp [isK, okB, opOk, numOk, strOk, nsOk, cntOk, wantK, b0, rightL, hs, ix, iy]
  | setix x y z p hx hy hz ix iy iz => rw [rightN_mk]; simp [isK, okB, opOk, numOk, strOk, nsOk, cntOk, wantK, b0, rightL, ix, iy, iz]
  | del s x p hs hx ix => rw [rightN_mk]; simp [isK, okB, opOk, numOk, strOk, nsOk, cntOk, wantK, b0, rightL, hs, ix]
  | delix x y p hx hy ix iy => rw [rightN_mk]; simp [isK, okB, opOk, numOk, strOk, nsOk, cntOk, wantK, b0, rightL, ix, iy]
  | print x p hx ix => rw [rightN_mk]; simp [isK, okB, opOk, numOk, strOk, nsOk, cntOk, wantK, b0, rightL, ix]
  | iff x y z p hx hy hz ix iy iz => rw [rightN_mk]; simp [isK, okB, opOk, numOk, strOk, nsOk, cntOk, wantK, b0, rightL, ix, iy, iz]
  | whil x y p hx hy ix iy => rw [rightN_mk]; simp [isK, okB, opOk, numOk, strOk, nsOk, cntOk, wantK, b0, rightL, ix, iy]
  | ret x p hx ix => rw [rightN_mk]; simp [isK, okB, opOk, numOk, strOk, nsOk, cntOk, wantK, b0, rightL, ix]
  | sexpr x p hx ix => rw [rightN_mk]; simp [isK, okB, opOk, numOk, strOk, nsOk, cntOk, wantK, b0, rightL, ix]
  | block ks p hc hk ik => rw [rightN_mk, rightL_same (a := 2) (by intro i; simp [wantK]) ik]; simp [isK, okB, opOk, numOk, strOk, nsOk, cntOk, wantK, b0, hc]

end Go.Proofs.YtijbiedblahmhaaDoor

namespace Go.Proofs.YtijbiedblahmhaaDoor
open Go.RowKit

def longB (ns : List ByteArray) : Bool := ns.any fun x => decide (100 < x.size)
mutual
/-- how many nodes may come yet -/
def leftN : Nd → Int → Nat → Int
  | .mk _ _ _ s ns ks _, m, h => if h = 0 ∨ 600 < s.size ∨ 60 < ns.length then -1 else if longB ns then -1 else leftL ks (m - 1) (h - 1)
def leftL : List Nd → Int → Nat → Int
  | [], m, _ => m
  | x :: r, m, h => if m < 0 then m else leftL r (leftN x m h) h
end
mutual
/-- texts are short all along -/
def smallN : Nd → Bool
  | .mk _ _ _ s ns ks _ => decide (s.size ≤ 600) && (decide (ns.length ≤ 60) && (!longB ns && smallL ks))
def smallL : List Nd → Bool
  | [] => true
  | x :: r => smallN x && smallL r
end

theorem leftL_neg : ∀ (l : List Nd) (m : Int) (h : Nat), m < 0 → leftL l m h = m
  | [], m, h, _ => by rw [leftL]
  | x :: r, m, h, hm => by rw [leftL, if_pos hm]

mutual
theorem leftN_bounds : ∀ (t : Nd) (m : Int) (h : Nat), 0 ≤ m → -1 ≤ leftN t m h ∧ leftN t m h ≤ m - 1
  | .mk _ _ _ s ns ks _, m, h, hm => by
    rw [leftN]
    split
    · omega
    · split
      · omega
      · have := leftL_bounds ks (m - 1) (h - 1) (by omega)
        omega
theorem leftL_bounds : ∀ (l : List Nd) (m : Int) (h : Nat), -1 ≤ m → -1 ≤ leftL l m h ∧ leftL l m h ≤ m
  | [], m, h, hm => by rw [leftL]; omega
  | x :: r, m, h, hm => by
    rw [leftL]
    split
    · omega
    · have h1 := leftN_bounds x m h (by omega)
      have h2 := leftL_bounds r (leftN x m h) h h1.1
      omega
end

mutual
theorem leftN_count : ∀ (t : Nd) (m : Int) (h : Nat), 0 ≤ leftN t m h → leftN t m h = m - countN t ∧ highN t ≤ h ∧ smallN t = true
  | .mk _ _ _ s ns ks _, m, h, hm => by
    rw [leftN] at hm ⊢
    split at hm
    · omega
    · rename_i h1
      rw [if_neg h1]
      simp only [not_or] at h1
      split at hm
      · omega
      · rename_i h2
        rw [if_neg h2]
        obtain ⟨e1, e2, e3⟩ := leftL_count ks (m - 1) (h - 1) hm
        have h2' : longB ns = false := by simpa using h2
        refine ⟨by rw [countN]; omega, by rw [highN]; omega, ?_⟩
        rw [smallN, e3, h2', decide_eq_true (by omega), decide_eq_true (by omega)]; rfl
theorem leftL_count : ∀ (l : List Nd) (m : Int) (h : Nat), 0 ≤ leftL l m h → leftL l m h = m - countL l ∧ highL l ≤ h ∧ smallL l = true
  | [], m, h, hm => by rw [leftL] at hm ⊢; exact ⟨by rw [countL]; omega, by rw [highL]; omega, by rw [smallL]⟩
  | x :: r, m, h, hm => by
    rw [leftL] at hm ⊢
    split at hm
    · omega
    · rename_i h1
      rw [if_neg h1]
      obtain ⟨e1, e2, e3⟩ := leftL_count r (leftN x m h) h hm
      have h0 : 0 ≤ leftN x m h := by omega
      obtain ⟨f1, f2, f3⟩ := leftN_count x m h h0
      exact ⟨by rw [e1, f1, countL]; omega, by rw [highL]; omega, by rw [smallL, e3, f3]; rfl⟩
end

/-- few -/
def fewB (t : Nd) : Bool := decide (0 ≤ leftN t 300 40)
theorem few_count {t : Nd} (h : fewB t = true) : countN t ≤ 300 ∧ highN t ≤ 40 ∧ smallN t = true := by
  have h0 : 0 ≤ leftN t 300 40 := of_decide_eq_true h
  obtain ⟨e1, e2, e3⟩ := leftN_count t 300 40 h0
  exact ⟨by omega, e2, e3⟩

theorem long_yes {ns : List ByteArray} {j : Nat} (hj : j < ns.length) (h : 100 < ns[j].size) : longB ns = true := by
  unfold longB; rw [List.any_eq_true]; exact ⟨_, List.getElem_mem hj, by simpa using h⟩
theorem long_no {ns : List ByteArray} (h : ∀ (j : Nat) (hj : j < ns.length), ns[j].size ≤ 100) : longB ns = false := by
  unfold longB; rw [List.any_eq_false]
  intro x hx
  obtain ⟨j, hj, rfl⟩ := List.getElem_of_mem hx
  have := h j hj
  simp; omega

theorem small_mk {k o n : Int} {s : ByteArray} {ns : List ByteArray} {ks : List Nd} {p : Int} (h : smallN (.mk k o n s ns ks p) = true) : s.size ≤ 600 ∧ ns.length ≤ 60 ∧ (∀ x ∈ ns, x.size ≤ 100) ∧ ∀ x ∈ ks, smallN x = true := by
  rw [smallN] at h
  simp only [Bool.and_eq_true, decide_eq_true_eq, Bool.not_eq_true'] at h
  obtain ⟨h1, h2, h3, h4⟩ := h
  refine ⟨h1, h2, ?_, ?_⟩
  · intro x hx
    unfold longB at h3
    rw [List.any_eq_false] at h3
    have := h3 x hx
    simp at this; omega
  · clear h1 h2 h3
    induction ks with
    | nil => intro x hx; cases hx
    | cons y r ih =>
      rw [smallL, Bool.and_eq_true] at h4
      intro x hx
      rcases List.mem_cons.1 hx with e | hx
      · rw [e]; exact h4.1
      · exact ih h4.2 x hx

end Go.Proofs.YtijbiedblahmhaaDoor

namespace Go.Proofs.YtijbiedblahmhaaDoor
open Go.RowKit

def GT (l : List Tok) : Prop := ∀ t ∈ l, rightTok t = true
theorem gt_suf {l l' : List Tok} (h : GT l) (hs : l' <:+ l) : GT l' := fun t ht => h t (hs.subset ht)

def okR (Q : Nd → Bool → List Tok → Prop) (l0 : List Tok) (x : PR) : Prop := match x with | .ok t b l => Q t b l | .bad l => l <:+ l0
def okL (Q : List ByteArray → List Nd → List Tok → Prop) (l0 : List Tok) (x : PL) : Prop := match x with | .ok ns ts l => Q ns ts l | .bad l => l <:+ l0
theorem okR.bind {Q Q' : Nd → Bool → List Tok → Prop} {l0 : List Tok} {x : PR} {k : Nd → Bool → List Tok → PR} (hx : okR Q l0 x) (hk : ∀ t b l, Q t b l → okR Q' l0 (k t b l)) : okR Q' l0 (x.bind k) := by
  cases x with
  | ok t b l => exact hk t b l hx
  | bad l => exact hx
theorem okR.bindL {Q : Nd → Bool → List Tok → Prop} {Q' : List ByteArray → List Nd → List Tok → Prop} {l0 : List Tok} {x : PR} {k : Nd → Bool → List Tok → PL} (hx : okR Q l0 x) (hk : ∀ t b l, Q t b l → okL Q' l0 (k t b l)) : okL Q' l0 (x.bindL k) := by
  cases x with
  | ok t b l => exact hk t b l hx
  | bad l => exact hx
theorem okL.bind {Q : List ByteArray → List Nd → List Tok → Prop} {Q' : Nd → Bool → List Tok → Prop} {l0 : List Tok} {x : PL} {k : List ByteArray → List Nd → List Tok → PR} (hx : okL Q l0 x) (hk : ∀ ns ts l, Q ns ts l → okR Q' l0 (k ns ts l)) : okR Q' l0 (x.bind k) := by
  cases x with
  | ok ns ts l => exact hk ns ts l hx
  | bad l => exact hx
theorem okR.up {Q : Nd → Bool → List Tok → Prop} {Q' : Nd → Bool → List Tok → Prop} {l0 l1 : List Tok} {x : PR} (hx : okR Q l1 x) (hs : l1 <:+ l0) (hk : ∀ t b l, Q t b l → Q' t b l) : okR Q' l0 x := by
  cases x with
  | ok t b l => exact hk t b l hx
  | bad l => exact List.IsSuffix.trans hx hs
theorem okL.up {Q : List ByteArray → List Nd → List Tok → Prop} {Q' : List ByteArray → List Nd → List Tok → Prop} {l0 l1 : List Tok} {x : PL} (hx : okL Q l1 x) (hs : l1 <:+ l0) (hk : ∀ t b l, Q t b l → Q' t b l) : okL Q' l0 x := by
  cases x with
  | ok t b l => exact hk t b l hx
  | bad l => exact List.IsSuffix.trans hx hs
theorem isH_some {l : List Tok} {x : List UInt8} (h : isH l x = true) : ∃ t r, l = t :: r ∧ isT t x = true := by
  cases l with
  | nil => cases h
  | cons t r => exact ⟨t, r, rfl, h⟩
theorem isW_some {l : List Tok} {k : Bool} (h : isW k l = true) : ∃ t r, l = t :: r ∧ (t.kind = 1 ∨ k = true ∧ t.kind = 2) := by
  cases l with
  | nil => cases k <;> cases h
  | cons t r =>
    refine ⟨t, r, rfl, ?_⟩
    unfold isW cur at h
    simpa using h
theorem okR.must {Q : Nd → Bool → List Tok → Prop} {l0 l : List Tok} {x : List UInt8} {k : List Tok → PR} (hs : l <:+ l0) (hk : ∀ t r, l = t :: r → isT t x = true → okR Q l0 (k r)) : okR Q l0 (must x l k) := by
  unfold Go.Proofs.YtijbiedblahmhaaDoor.must
  split
  · rename_i h
    obtain ⟨t, r, rfl, ht⟩ := isH_some h
    exact hk t r rfl ht
  · exact hs
theorem okL.must {Q : List ByteArray → List Nd → List Tok → Prop} {l0 l : List Tok} {x : List UInt8} {k : List Tok → PL} (hs : l <:+ l0) (hk : ∀ t r, l = t :: r → isT t x = true → okL Q l0 (k r)) : okL Q l0 (mustL x l k) := by
  unfold mustL
  split
  · rename_i h
    obtain ⟨t, r, rfl, ht⟩ := isH_some h
    exact hk t r rfl ht
  · exact hs
theorem okR.word {Q : Nd → Bool → List Tok → Prop} {l0 l : List Tok} {b : Bool} {k : ByteArray → List Tok → PR} (hs : l <:+ l0) (hk : ∀ t r, l = t :: r → (t.kind = 1 ∨ b = true ∧ t.kind = 2) → okR Q l0 (k t.text r)) : okR Q l0 (wordP b l k) := by
  unfold wordP
  split
  · rename_i h
    obtain ⟨t, r, rfl, ht⟩ := isW_some h
    exact hk t r rfl ht
  · exact hs
theorem okL.word {Q : List ByteArray → List Nd → List Tok → Prop} {l0 l : List Tok} {b : Bool} {k : ByteArray → List Tok → PL} (hs : l <:+ l0) (hk : ∀ t r, l = t :: r → (t.kind = 1 ∨ b = true ∧ t.kind = 2) → okL Q l0 (k t.text r)) : okL Q l0 (wordL b l k) := by
  unfold wordL
  split
  · rename_i h
    obtain ⟨t, r, rfl, ht⟩ := isW_some h
    exact hk t r rfl ht
  · exact hs
theorem okR.ite {Q : Nd → Bool → List Tok → Prop} {l0 : List Tok} {c : Prop} [Decidable c] {a b : PR} (h1 : c → okR Q l0 a) (h2 : ¬ c → okR Q l0 b) : okR Q l0 (if c then a else b) := by
  split
  · rename_i h; exact h1 h
  · rename_i h; exact h2 h
theorem okL.ite {Q : List ByteArray → List Nd → List Tok → Prop} {l0 : List Tok} {c : Prop} [Decidable c] {a b : PL} (h1 : c → okL Q l0 a) (h2 : ¬ c → okL Q l0 b) : okL Q l0 (if c then a else b) := by
  split
  · rename_i h; exact h1 h
  · rename_i h; exact h2 h

/-! what tokens are right for -/
theorem key_name : ∀ x ∈ keyL, nameB x = true := by decide
theorem word_prop {t : Tok} {b : Bool} (hr : rightTok t = true) (h : t.kind = 1 ∨ b = true ∧ t.kind = 2) : propB t.text = true := by
  unfold rightTok at hr
  rcases h with h | ⟨_, h⟩
  · rw [h] at hr
    simp at hr
    exact hr.2.1
  · rw [h] at hr
    simp at hr
    exact key_name _ (List.contains_iff_mem.1 hr.2)
theorem word_proper {t : Tok} (hr : rightTok t = true) (h : t.kind = 1) : properB t.text = true := by
  unfold rightTok at hr
  rw [h] at hr
  simp at hr
  unfold properB
  rw [hr.2.1, hr.2.2]; rfl
theorem prop_not {s : ByteArray} (h : propB s = true) : s.data.toList ≠ [41] := by
  intro e
  unfold propB at h
  rw [e] at h; cases h
theorem isT_text {t : Tok} {x : List UInt8} (h : isT t x = true) : t.text.data.toList = x := by
  unfold isT at h
  rw [Bool.and_eq_true, beq_iff_eq] at h
  exact h.2

def bareK (t : Nd) : Prop := t.kind = 5 ∨ t.kind = 13 ∨ t.kind = 14
/-- an expression that was read from l0, and what is left -/
def Q1 (l0 : List Tok) (t : Nd) (b : Bool) (l : List Tok) : Prop :=
  Rt 1 t ∧ ∃ pre u, l0 = pre ++ u :: l ∧ countN t ≤ pre.length + 1 ∧ (bareK t → (b = true ↔ u.text.data.toList ≠ [41])) ∧ (b = true → bareK t)
/-- a statement, a block -/
def Q2 (a : Nat) (l0 : List Tok) (t : Nd) (_b : Bool) (l : List Tok) : Prop := Rt a t ∧ ∃ pre u, l0 = pre ++ u :: l ∧ countN t ≤ pre.length + 1
/-- a statement, its semicolon still to come -/
def Q3 (l0 : List Tok) (t : Nd) (_b : Bool) (l : List Tok) : Prop := Rt 2 t ∧ ∃ pre u, l0 = pre ++ u :: l ∧ countN t ≤ pre.length + 2
/-- a list behind other tokens -/
def QL (a : Nat) (most : Nat) (l0 : List Tok) (ts : List Nd) (l : List Tok) : Prop := (∀ x ∈ ts, Rt a x) ∧ ts.length ≤ most ∧ ∃ pre, l0 = pre ++ l ∧ countL ts ≤ pre.length
theorem Q1.suf {l0 l : List Tok} {t : Nd} {b : Bool} (h : Q1 l0 t b l) : l <:+ l0 := by
  obtain ⟨_, pre, u, rfl, _⟩ := h
  exact ⟨pre ++ [u], by simp⟩
theorem Q2.suf {a : Nat} {l0 l : List Tok} {t : Nd} {b : Bool} (h : Q2 a l0 t b l) : l <:+ l0 := by
  obtain ⟨_, pre, u, rfl, _⟩ := h
  exact ⟨pre ++ [u], by simp⟩
theorem Q3.suf {l0 l : List Tok} {t : Nd} {b : Bool} (h : Q3 l0 t b l) : l <:+ l0 := by
  obtain ⟨_, pre, u, rfl, _⟩ := h
  exact ⟨pre ++ [u], by simp⟩
theorem QL.suf {a m : Nat} {l0 l : List Tok} {ts : List Nd} (h : QL a m l0 ts l) : l <:+ l0 := by
  obtain ⟨_, _, pre, rfl, _⟩ := h
  exact ⟨pre, rfl⟩
theorem suf_cons {t : Tok} {r l0 : List Tok} (h : t :: r <:+ l0) : r <:+ l0 := (List.suffix_cons t r).trans h
/-- tokens ahead, and behind -/
theorem Q1.mk {l0 l : List Tok} {t : Nd} (ht : Rt 1 t) (hk : ¬ bareK t) (pre : List Tok) (u : Tok) (h : l0 = pre ++ u :: l) (hc : countN t ≤ pre.length + 1) : Q1 l0 t false l :=
  ⟨ht, pre, u, h, hc, fun h => absurd h hk, fun h => by cases h⟩
theorem countN_1 (k o n : Int) (s : ByteArray) (ns : List ByteArray) (p : Int) : countN (.mk k o n s ns [] p) = 1 := by simp [countN, countL]
theorem countK (k o n : Int) (s : ByteArray) (ns : List ByteArray) (ks : List Nd) (p : Int) : countN (.mk k o n s ns ks p) = countL ks + 1 := by rw [countN]

theorem pPar_ok (l0 : List Tok) (hg : GT l0) : ∀ (f : Nat) (ns : List ByteArray) (l : List Tok), l <:+ l0 → (∀ s ∈ ns, properB s = true) → ns.length + f = 6 → okL (fun ns' ts l' => (∀ s ∈ ns', properB s = true) ∧ ns'.length ≤ 6 ∧ l' <:+ l0 ∧ ts = []) l0 (pPar f ns l)
  | 0, ns, l, hs, _, _ => hs
  | f + 1, ns, l, hs, hn, hf => by
    rw [pPar]
    refine okL.word hs fun t r e ht => ?_
    subst e
    have hp := word_proper (hg t (hs.subset (by simp))) (by rcases ht with h | ⟨h, _⟩; exact h; cases h)
    have hn' : ∀ s ∈ ns ++ [t.text], properB s = true := by
      intro s hs
      rcases List.mem_append.1 hs with h | h
      · exact hn s h
      · rw [List.mem_singleton.1 h]; exact hp
    refine okL.ite (fun hc => ?_) (fun _ => okL.must (suf_cons hs) fun u q e _ => ?_)
    · obtain ⟨u, q, rfl, _⟩ := isH_some hc.2
      exact pPar_ok l0 hg f _ _ (suf_cons (suf_cons hs)) hn' (by simp; omega)
    · subst e
      exact ⟨hn', by simp; omega, suf_cons (suf_cons hs), rfl⟩
theorem pPars_ok (l0 : List Tok) (hg : GT l0) (l : List Tok) (hs : l <:+ l0) : okL (fun ns' ts l' => (∀ s ∈ ns', properB s = true) ∧ ns'.length ≤ 6 ∧ l' <:+ l0 ∧ ts = []) l0 (pPars l) := by
  unfold pPars
  refine okL.ite (fun h => ?_) (fun _ => pPar_ok l0 hg 6 [] l hs (by simp) rfl)
  obtain ⟨u, q, rfl, _⟩ := isH_some h
  exact ⟨by simp, by simp, suf_cons hs, rfl⟩

structure MayZ (f : Nat) : Prop where
  rank : ∀ r l, GT l → okR (Q1 l) l (pRank f r l)
  more : ∀ r e b l0 l, GT l0 → r ≤ 6 → Q1 l0 e b l → okR (Q1 l0) l0 (pMore f r e b l)
  post : ∀ l, GT l → okR (Q1 l) l (pPost f l)
  tail : ∀ e b l0 l, GT l0 → Q1 l0 e b l → okR (Q1 l0) l0 (pTail f e b l)
  args : ∀ ks l0 l, GT l0 → ks.length ≤ 1 → QL 1 7 l0 ks l → okL (fun _ ts l' => QL 1 7 l0 ts l' ∧ (ks ≠ [] → ts.head? = ks.head? ) ∧ ∃ pre u, l0 = pre ++ u :: l' ∧ countL ts ≤ pre.length) l0 (pArgs f ks l)
  argsM : ∀ ks l0 l, GT l0 → QL 1 7 l0 ks l → okL (fun _ ts l' => QL 1 7 l0 ts l' ∧ (ks ≠ [] → ts.head? = ks.head?) ∧ ∃ pre u, l0 = pre ++ u :: l' ∧ countL ts ≤ pre.length) l0 (pArgsM f ks l)
  atom : ∀ l, GT l → okR (Q1 l) l (pAtom f l)
  obj : ∀ l0 l, GT l0 → QL 1 40 l0 [] l → okL (fun ns ts l' => QL 1 40 l0 ts l' ∧ ns.length = ts.length ∧ (∀ s ∈ ns, propB s = true) ∧ ∃ pre u, l0 = pre ++ u :: l' ∧ countL ts ≤ pre.length) l0 (pObj f l)
  field : ∀ ns ks l0 l, GT l0 → QL 1 39 l0 ks l → ns.length = ks.length → (∀ s ∈ ns, propB s = true) → okL (fun ns ts l' => QL 1 40 l0 ts l' ∧ ns.length = ts.length ∧ (∀ s ∈ ns, propB s = true) ∧ ∃ pre u, l0 = pre ++ u :: l' ∧ countL ts ≤ pre.length) l0 (pField f ns ks l)
  objM : ∀ ns ks l0 l, GT l0 → QL 1 40 l0 ks l → ns.length = ks.length → (∀ s ∈ ns, propB s = true) → okL (fun ns ts l' => QL 1 40 l0 ts l' ∧ ns.length = ts.length ∧ (∀ s ∈ ns, propB s = true) ∧ ∃ pre u, l0 = pre ++ u :: l' ∧ countL ts ≤ pre.length) l0 (pObjM f ns ks l)
  block : ∀ l, GT l → okR (Q2 3 l) l (pBlock f l)
  stmts : ∀ ks l0 l, GT l0 → QL 2 40 l0 ks l → okL (fun _ ts l' => QL 2 40 l0 ts l') l0 (pStmts f ks l)
  ask : ∀ l, GT l → okR (fun t _ l' => Rt 1 t ∧ ∃ pre u, l = pre ++ u :: l' ∧ countN t ≤ pre.length) l (pAsk f l)
  stmt : ∀ l, GT l → okR (Q2 2 l) l (pStmt f l)
  short : ∀ l, GT l → okR (Q3 l) l (pShort f l)

theorem may_0 : MayZ 0 := by
  constructor
  · intro r l _; rw [pRank]; exact List.suffix_refl _
  · intro r e b l0 l _ _ h; rw [pMore]; exact h.suf
  · intro l _; rw [pPost]; exact List.suffix_refl _
  · intro e b l0 l _ h; rw [pTail]; exact h.suf
  · intro ks l0 l _ _ h; rw [pArgs]; exact h.suf
  · intro ks l0 l _ h; rw [pArgsM]; exact h.suf
  · intro l _; rw [pAtom]; exact List.suffix_refl _
  · intro l0 l _ h; rw [pObj]; exact h.suf
  · intro ns ks l0 l _ h _ _; rw [pField]; exact h.suf
  · intro ns ks l0 l _ h _ _; rw [pObjM]; exact h.suf
  · intro l _; rw [pBlock]; exact List.suffix_refl _
  · intro ks l0 l _ h; rw [pStmts]; exact h.suf
  · intro l _; rw [pAsk]; exact List.suffix_refl _
  · intro l _; rw [pStmt]; exact List.suffix_refl _
  · intro l _; rw [pShort]; exact List.suffix_refl _

theorem sign_kinds {r : Nat} {l : List Tok} {k o : Int} (h : signP r l = some (k, o)) : (∃ t q, l = t :: q) ∧ ((k = 12 ∧ o = 0) ∨ (k = 11 ∧ o = 0) ∨ (k = 10 ∧ 1 ≤ o ∧ o ≤ 11)) := by
  have hl : ∀ (s : List (List UInt8 × Int × Int)), signF s l = some (k, o) → (∃ t q, l = t :: q) ∧ ∃ x, (x, k, o) ∈ s := by
    intro s
    induction s with
    | nil => intro h; cases h
    | cons a s ih =>
      obtain ⟨x, k', o'⟩ := a
      intro h
      rw [signF] at h
      split at h
      · rename_i hh
        obtain ⟨t, q, e, _⟩ := isH_some hh
        injection h with h
        injection h with h1 h2
        subst h1 h2
        exact ⟨⟨t, q, e⟩, x, by simp⟩
      · obtain ⟨h1, x', h2⟩ := ih h
        exact ⟨h1, x', by simp [h2]⟩
  obtain ⟨h1, x, h2⟩ := hl _ h
  refine ⟨h1, ?_⟩
  unfold sgR at h2
  split at h2 <;> simp at h2
  · omega
  · omega
  · rcases h2 with h2 | h2 <;> omega
  · rcases h2 with h2 | h2 | h2 | h2 <;> omega
  · rcases h2 with h2 | h2 <;> omega
  · rcases h2 with h2 | h2 | h2 <;> omega
theorem built_kinds {l : List Tok} {o : Int} (h : builtP l = some o) : (∃ t q, l = t :: q) ∧ 1 ≤ o ∧ o ≤ 7 := by
  have hl : ∀ (s : List Int), builtF s l = some o → (∃ t q, l = t :: q) ∧ o ∈ s := by
    intro s
    induction s with
    | nil => intro h; cases h
    | cons a s ih =>
      intro h
      rw [builtF] at h
      split at h
      · rename_i hh
        obtain ⟨t, q, e, _⟩ := isH_some hh
        injection h with h
        subst h
        exact ⟨⟨t, q, e⟩, by simp⟩
      · obtain ⟨h1, h2⟩ := ih h
        exact ⟨h1, by simp [h2]⟩
  obtain ⟨h1, h2⟩ := hl _ h
  refine ⟨h1, ?_⟩
  simp at h2
  omega
theorem countL_1 (x : Nd) : countL [x] = countN x := by simp [countL]
theorem countL_2 (x y : Nd) : countL [x, y] = countN x + countN y := by simp [countL]
theorem countL_3 (x y z : Nd) : countL [x, y, z] = countN x + (countN y + countN z) := by simp [countL]
theorem cons_head {l : List Tok} (h : (cur l).kind ≠ 0) : ∃ t q, l = t :: q := by
  cases l with
  | nil => exact absurd rfl h
  | cons t q => exact ⟨t, q, rfl⟩

/-- the parts of an index, or a get's -/
theorem rt_get {e : Nd} (h : Rt 1 e) (hk : e.kind = 13) : ∃ x p, e = .mk 13 0 0 e.str [] [x] p ∧ propB e.str = true ∧ Rt 1 x := by
  cases h with
  | get s x p hs hx => exact ⟨x, p, rfl, hs, hx⟩
  | _ => simp [Nd.kind] at hk
theorem rt_index {e : Nd} (h : Rt 1 e) (hk : e.kind = 14) : ∃ x y p, e = .mk 14 0 0 bz [] [x, y] p ∧ Rt 1 x ∧ Rt 1 y := by
  cases h with
  | index x y p hx hy => exact ⟨x, y, p, rfl, hx, hy⟩
  | _ => simp [Nd.kind] at hk
theorem rt_name {e : Nd} (h : Rt 1 e) (hk : e.kind = 5) : ∃ p, e = .mk 5 0 0 e.str [] [] p ∧ properB e.str = true := by
  cases h with
  | name s p hs => exact ⟨p, rfl, hs⟩
  | _ => simp [Nd.kind] at hk

theorem may_succ {f : Nat} (H : MayZ f) : MayZ (f + 1) where
  rank r l hg := by
    rw [pRank]
    refine okR.ite (fun _ => okR.ite (fun h => ?_) (fun _ => okR.ite (fun h => ?_) (fun _ => H.post l hg))) (fun h7 => ?_)
    · obtain ⟨t, q, rfl, _⟩ := isH_some h
      refine okR.bind ((H.rank 7 q (gt_suf hg (List.suffix_cons t q))).up (List.suffix_cons t q) fun _ _ _ h => h) fun e b l' hq => ?_
      obtain ⟨h1, pre, u, rfl, hc, _, _⟩ := hq
      exact Q1.mk (.un 1 e 0 (.inl rfl) h1) (by simp [bareK, ndO, Nd.kind]) (t :: pre) u rfl (by unfold ndO; rw [countK, countL_1]; simp; omega)
    · obtain ⟨t, q, rfl, _⟩ := isH_some h
      refine okR.bind ((H.rank 7 q (gt_suf hg (List.suffix_cons t q))).up (List.suffix_cons t q) fun _ _ _ h => h) fun e b l' hq => ?_
      obtain ⟨h1, pre, u, rfl, hc, _, _⟩ := hq
      exact Q1.mk (.un 2 e 0 (.inr rfl) h1) (by simp [bareK, ndO, Nd.kind]) (t :: pre) u rfl (by unfold ndO; rw [countK, countL_1]; simp; omega)
    · exact okR.bind (H.rank (r + 1) l hg) fun e b l' hq => H.more r e b l l' hg (by omega) hq
  more r e b l0 l hg hr hq := by
    rw [pMore]
    cases hs : signP r l with
    | none => exact hq
    | some p =>
      obtain ⟨k, o⟩ := p
      obtain ⟨⟨t, q, rfl⟩, hk⟩ := sign_kinds hs
      simp only [List.tail_cons]
      have hsuf := suf_cons hq.suf
      refine okR.bind ((H.rank (r + 1) q (gt_suf hg hsuf)).up hsuf fun _ _ _ h => h) fun e' b' l' hq' => ?_
      refine H.more r _ _ l0 l' hg hr ?_
      obtain ⟨h1, pre, u, rfl, hc, _, _⟩ := hq
      obtain ⟨h1', pre', u', rfl, hc', _, _⟩ := hq'
      have hcc : countN (ndO k o [e, e']) ≤ (pre ++ u :: t :: pre').length + 1 := by
        unfold ndO; rw [countK, countL_2]; simp; omega
      have hrt : Rt 1 (ndO k o [e, e']) := by
        rcases hk with ⟨rfl, rfl⟩ | ⟨rfl, rfl⟩ | ⟨rfl, ho⟩
        · exact .or e e' 0 h1 h1'
        · exact .and e e' 0 h1 h1'
        · exact .bin o e e' 0 ho h1 h1'
      exact Q1.mk hrt (by rcases hk with ⟨rfl, rfl⟩ | ⟨rfl, rfl⟩ | ⟨rfl, ho⟩ <;> simp [bareK, ndO, Nd.kind]) (pre ++ u :: t :: pre') u' (by simp) hcc
  post l hg := by
    rw [pPost]
    exact okR.bind (H.atom l hg) fun e b l' hq => H.tail e b l l' hg hq
  tail e b l0 l hg hq := by
    rw [pTail]
    refine okR.ite (fun h => ?_) (fun _ => okR.ite (fun h => ?_) (fun _ => okR.ite (fun h => ?_) (fun _ => hq)))
    · obtain ⟨t, q, rfl, _⟩ := isH_some h
      refine okR.word (suf_cons hq.suf) fun v z ez hv => ?_
      simp only [List.tail_cons] at ez
      subst ez
      have hvr := hg v (hq.suf.subset (by simp))
      have hpv := word_prop hvr hv
      obtain ⟨h1, pre, u, rfl, hc, _, _⟩ := hq
      refine okR.ite (fun h40 => ?_) (fun _ => ?_)
      · obtain ⟨t2, q2, rfl, _⟩ := isH_some h40
        simp only [List.tail_cons]
        have hQL : QL 1 7 (pre ++ u :: t :: v :: t2 :: q2) [e] q2 := ⟨by simpa using h1, by simp, pre ++ [u, t, v, t2], by simp, by rw [countL_1]; simp; omega⟩
        refine okL.bind (H.args [e] _ q2 hg (by simp) hQL) fun _ ts l' ht => ?_
        obtain ⟨⟨t1, t7, _⟩, th, pre2, u2, ep, hc2⟩ := ht
        have hhd := th (by simp)
        cases ts with
        | nil => cases hhd
        | cons x xs =>
          injection hhd with hhd
          subst hhd
          refine H.tail _ _ _ l' hg ?_
          exact Q1.mk (.meth v.text x xs 0 hpv (by simpa using t7) h1 (fun y hy => t1 y (by simp [hy]))) (by simp [bareK, ndS, Nd.kind]) pre2 u2 ep (by unfold ndS; rw [countK]; omega)
      · refine H.tail _ _ _ z hg ⟨.get v.text e 0 hpv h1, pre ++ [u, t], v, by simp, ?_, fun _ => ?_, fun _ => .inr (.inl rfl)⟩
        · unfold ndS; rw [countK, countL_1]; simp; omega
        · exact ⟨fun _ => prop_not hpv, fun _ => rfl⟩
    · obtain ⟨t, q, rfl, _⟩ := isH_some h
      simp only [List.tail_cons]
      have hsuf := suf_cons hq.suf
      refine okR.bind ((H.rank 1 q (gt_suf hg hsuf)).up hsuf fun _ _ _ h => h) fun i b' l' hq' => ?_
      have hs2 := hq'.suf.trans hsuf
      refine okR.must hs2 fun v z ez hv => ?_
      subst ez
      obtain ⟨h1, pre, u, rfl, hc, _, _⟩ := hq
      obtain ⟨h1', pre', u', rfl, hc', _, _⟩ := hq'
      refine H.tail _ _ _ z hg ⟨.index e i 0 h1 h1', pre ++ u :: t :: (pre' ++ [u']), v, by simp, ?_, fun _ => ?_, fun _ => .inr (.inr rfl)⟩
      · unfold ndK; rw [countK, countL_2]; simp; omega
      · exact ⟨fun _ => by rw [isT_text hv]; decide, fun _ => rfl⟩
    · obtain ⟨t, q, rfl, _⟩ := isH_some h
      simp only [List.tail_cons]
      obtain ⟨h1, pre, u, rfl, hc, _, _⟩ := hq
      have hQL : QL 1 7 (pre ++ u :: t :: q) [e] q := ⟨by simpa using h1, by simp, pre ++ [u, t], by simp, by rw [countL_1]; simp; omega⟩
      refine okL.bind (H.args [e] _ q hg (by simp) hQL) fun _ ts l' ht => ?_
      obtain ⟨⟨t1, t7, _⟩, th, pre2, u2, ep, hc2⟩ := ht
      have hhd := th (by simp)
      cases ts with
      | nil => cases hhd
      | cons x xs =>
        injection hhd with hhd
        subst hhd
        refine H.tail _ _ _ l' hg ?_
        exact Q1.mk (.call x xs 0 (by simpa using t7) h1 (fun y hy => t1 y (by simp [hy]))) (by simp [bareK, ndK, Nd.kind]) pre2 u2 ep (by unfold ndK; rw [countK]; omega)
  args ks l0 l hg h1 hq := by
    rw [pArgs]
    refine okL.ite (fun h => ?_) (fun _ => ?_)
    · obtain ⟨t, q, rfl, _⟩ := isH_some h
      obtain ⟨a1, a2, pre, rfl, a3⟩ := hq
      exact ⟨⟨a1, a2, pre ++ [t], by simp, by simp; omega⟩, fun _ => rfl, pre, t, rfl, a3⟩
    · refine okR.bindL ((H.rank 1 l (gt_suf hg hq.suf)).up hq.suf fun _ _ _ h => h) fun e b l' hq' => ?_
      obtain ⟨a1, a2, pre, rfl, a3⟩ := hq
      obtain ⟨b1, pre', u', rfl, b2, _, _⟩ := hq'
      have hQ : QL 1 7 (pre ++ (pre' ++ u' :: l')) (ks ++ [e]) l' := ⟨fun x hx => (List.mem_append.1 hx).elim (a1 x) (fun h => by rw [List.mem_singleton.1 h]; exact b1), by simp; omega, pre ++ pre' ++ [u'], by simp, by rw [countL_snoc]; simp; omega⟩
      refine (H.argsM _ _ l' hg hQ).up (List.suffix_refl _) fun _ ts l'' ht => ⟨ht.1, fun hne => ?_, ht.2.2⟩
      rw [ht.2.1 (by simp)]
      cases ks with
      | nil => exact absurd rfl hne
      | cons => rfl
  argsM ks l0 l hg hq := by
    rw [pArgsM]
    refine okL.ite (fun h => ?_) (fun _ => okL.must hq.suf fun t q e _ => ?_)
    · obtain ⟨hk7, hh⟩ := h
      obtain ⟨t, q, rfl, _⟩ := isH_some hh
      simp only [List.tail_cons]
      have hsuf := suf_cons hq.suf
      refine okR.bindL ((H.rank 1 q (gt_suf hg hsuf)).up hsuf fun _ _ _ h => h) fun e b l' hq' => ?_
      obtain ⟨a1, a2, pre, rfl, a3⟩ := hq
      obtain ⟨b1, pre', u', rfl, b2, _, _⟩ := hq'
      have hQ : QL 1 7 (pre ++ (t :: (pre' ++ u' :: l'))) (ks ++ [e]) l' := ⟨fun x hx => (List.mem_append.1 hx).elim (a1 x) (fun h => by rw [List.mem_singleton.1 h]; exact b1), by simp; omega, pre ++ t :: (pre' ++ [u']), by simp, by rw [countL_snoc]; simp; omega⟩
      refine (H.argsM _ _ l' hg hQ).up (List.suffix_refl _) fun _ ts l'' ht => ⟨ht.1, fun hne => ?_, ht.2.2⟩
      rw [ht.2.1 (by simp)]
      cases ks with
      | nil => exact absurd rfl hne
      | cons => rfl
    · subst e
      obtain ⟨a1, a2, pre, rfl, a3⟩ := hq
      exact ⟨⟨a1, a2, pre ++ [t], by simp, by simp; omega⟩, fun _ => rfl, pre, t, rfl, a3⟩
  atom l hg := by
    rw [pAtom]
    have leaf : ∀ {t : Tok} {q : List Tok} {n : Nd}, l = t :: q → Rt 1 n → ¬ bareK n → n.kids = [] → okR (Q1 l) l (.ok n false l.tail) := by
      intro t q n e hn hb hk
      subst e
      obtain ⟨k, o, m, s, ns, ks, p⟩ := n
      have hk' : ks = [] := hk
      subst hk'
      exact Q1.mk hn hb [] t rfl (by rw [countN_1]; simp)
    refine okR.ite (fun h => ?_) (fun _ => okR.ite (fun h => ?_) (fun _ => okR.ite (fun h => ?_) (fun _ => okR.ite (fun h => ?_) (fun _ => okR.ite (fun h => ?_) (fun _ => okR.ite (fun h => ?_) (fun _ => okR.ite (fun h => ?_)
      (fun _ => okR.ite (fun h => ?_) (fun _ => okR.ite (fun h => ?_) (fun _ => okR.ite (fun h => ?_) (fun _ => ?_))))))))))
    · obtain ⟨t, q, rfl⟩ := cons_head (l := l) (by omega)
      have hr := hg t (by simp)
      have hk : t.kind = 3 := h
      unfold rightTok at hr
      rw [if_pos hk] at hr
      simp at hr
      exact leaf rfl (.int t.num 0 ⟨hr.1, hr.2.1⟩) (by simp [bareK, Nd.kind]) rfl
    · obtain ⟨t, q, rfl⟩ := cons_head (l := l) (by omega)
      have hr := hg t (by simp)
      have hk : t.kind = 4 := h
      unfold rightTok at hr
      rw [hk] at hr
      simp at hr
      exact leaf rfl (.str t.text 0 hr.2) (by simp [bareK, ndS, Nd.kind]) rfl
    · obtain ⟨t, q, rfl⟩ := cons_head (l := l) (by omega)
      have hr := hg t (by simp)
      have hk : t.kind = 1 := h
      have hp := word_proper hr hk
      refine ⟨.name t.text _ hp, [], t, rfl, by rw [countN_1]; simp, fun _ => ⟨fun _ => ?_, fun _ => rfl⟩, fun _ => .inl rfl⟩
      exact prop_not (word_prop (b := false) hr (.inl hk))
    · obtain ⟨t, q, rfl, _⟩ := isH_some h
      exact leaf rfl (.null 0) (by simp [bareK, ndK, Nd.kind]) rfl
    · obtain ⟨t, q, rfl, _⟩ := isH_some h
      exact leaf rfl (.bool 1 0 (.inr rfl)) (by simp [bareK, Nd.kind]) rfl
    · obtain ⟨t, q, rfl, _⟩ := isH_some h
      exact leaf rfl (.bool 0 0 (.inl rfl)) (by simp [bareK, ndK, Nd.kind]) rfl
    · obtain ⟨t, q, rfl, _⟩ := isH_some h
      exact leaf rfl (.this 0) (by simp [bareK, ndK, Nd.kind]) rfl
    · obtain ⟨t, q, rfl, _⟩ := isH_some h
      simp only [List.tail_cons]
      have hsuf := List.suffix_cons t q
      refine okR.bind ((H.rank 1 q (gt_suf hg hsuf)).up hsuf fun _ _ _ h => h) fun e b l' hq => ?_
      refine okR.must (hq.suf.trans hsuf) fun v z ez hv => ?_
      subst ez
      obtain ⟨h1, pre, u, rfl, hc, _, _⟩ := hq
      exact ⟨h1, t :: (pre ++ [u]), v, by simp, by simp; omega, fun _ => ⟨fun h => (by cases h), fun h => absurd (isT_text hv) h⟩, fun h => (by cases h)⟩
    · obtain ⟨t, q, rfl, _⟩ := isH_some h
      simp only [List.tail_cons]
      refine okL.bind (H.obj (t :: q) q hg ⟨by simp, by simp, [t], rfl, by simp [countL]⟩) fun ns ts l' ht => ?_
      obtain ⟨⟨t1, t40, _⟩, hn, hp, pre, u, ep, hc⟩ := ht
      exact Q1.mk (.obj ns ts 0 hn.symm (by omega) hp t1) (by simp [bareK, Nd.kind]) pre u ep (by rw [countK]; omega)
    · obtain ⟨t, q, rfl, _⟩ := isH_some h
      simp only [List.tail_cons]
      have hsuf := List.suffix_cons t q
      refine okR.must hsuf fun v z ez _ => ?_
      subst ez
      refine okL.bind (pPars_ok _ hg z (suf_cons (suf_cons (List.suffix_refl _)))) fun ns ts l' ht => ?_
      obtain ⟨hn, h6, hs', _⟩ := ht
      refine okR.bind ((H.block l' (gt_suf hg hs')).up hs' fun _ _ _ h => h) fun bk _ l'' hb => ?_
      obtain ⟨hb1, pre, u, rfl, hc⟩ := hb
      obtain ⟨pp, epp⟩ := hs'
      cases hb1 with
      | block ks p hc40 hk =>
        refine Q1.mk (.fn ns ks _ h6 hn hc40 hk) (by simp [bareK, Nd.kind]) (pp ++ pre) u (by rw [← epp]; simp) ?_
        show countN (.mk 8 0 0 bz ns ks _) ≤ _
        rw [countK] at hc ⊢
        simp; omega
    · cases hb : builtP l with
      | none => exact List.suffix_refl _
      | some o =>
        obtain ⟨⟨t, q, rfl⟩, ho⟩ := built_kinds hb
        simp only [List.tail_cons]
        have hsuf := List.suffix_cons t q
        refine okR.must hsuf fun v z ez _ => ?_
        subst ez
        have hs2 : z <:+ t :: v :: z := suf_cons (suf_cons (List.suffix_refl _))
        refine okR.bind ((H.rank 1 z (gt_suf hg hs2)).up hs2 fun _ _ _ h => h) fun e b l' hq => ?_
        have hs3 := hq.suf.trans hs2
        refine okR.ite (fun h2 => okR.must hs3 fun v2 z2 ez2 _ => ?_) (fun h2 => okR.must hs3 fun v2 z2 ez2 _ => ?_)
        · subst ez2
          have hs4 := suf_cons hs3
          refine okR.bind ((H.rank 1 z2 (gt_suf hg hs4)).up hs4 fun _ _ _ h => h) fun e' b' l'' hq' => ?_
          refine okR.must (hq'.suf.trans hs4) fun v3 z3 ez3 _ => ?_
          subst ez3
          obtain ⟨h1, pre, u, rfl, hc, _, _⟩ := hq
          obtain ⟨h1', pre', u', rfl, hc', _, _⟩ := hq'
          refine Q1.mk (.built o [e, e'] 0 ho (by rw [h2]; rfl) (by simp [h1, h1'])) (by simp [bareK, ndO, Nd.kind]) (t :: v :: (pre ++ u :: v2 :: (pre' ++ [u']))) v3 (by simp) (by unfold ndO; rw [countK, countL_2]; simp; omega)
        · subst ez2
          obtain ⟨h1, pre, u, rfl, hc, _, _⟩ := hq
          have h21 : (builtT o).2 = 1 := by
            obtain rfl | rfl | rfl | rfl | rfl | rfl | rfl : o = 1 ∨ o = 2 ∨ o = 3 ∨ o = 4 ∨ o = 5 ∨ o = 6 ∨ o = 7 := by omega
            all_goals first | rfl | exact absurd rfl h2
          refine Q1.mk (.built o [e] 0 ho (by rw [h21]; rfl) (by simp [h1])) (by simp [bareK, ndO, Nd.kind]) (t :: v :: (pre ++ [u])) v2 (by simp) (by unfold ndO; rw [countK, countL_1]; simp; omega)
  obj l0 l hg hq := by
    rw [pObj]
    refine okL.ite (fun h => ?_) (fun _ => H.field [] [] l0 l hg ⟨by simp, by simp, hq.2.2⟩ rfl (by simp))
    obtain ⟨t, q, rfl, _⟩ := isH_some h
    obtain ⟨_, _, pre, rfl, _⟩ := hq
    exact ⟨⟨by simp, by simp, pre ++ [t], by simp, by simp [countL]⟩, rfl, by simp, pre, t, rfl, by simp [countL]⟩
  field ns ks l0 l hg hq hn hp := by
    rw [pField]
    refine okL.word hq.suf fun t q e ht => ?_
    subst e
    have hpv := word_prop (hg t (hq.suf.subset (by simp))) ht
    have hs1 := suf_cons hq.suf
    refine okL.must hs1 fun v z ez _ => ?_
    subst ez
    have hs2 := suf_cons hs1
    refine okR.bindL ((H.rank 1 z (gt_suf hg hs2)).up hs2 fun _ _ _ h => h) fun e b l' hq' => ?_
    obtain ⟨a1, a2, pre, rfl, a3⟩ := hq
    obtain ⟨b1, pre', u', rfl, b2, _, _⟩ := hq'
    refine H.objM _ _ _ l' hg ⟨fun x hx => (List.mem_append.1 hx).elim (a1 x) (fun h => by rw [List.mem_singleton.1 h]; exact b1), by simp; omega, pre ++ t :: v :: (pre' ++ [u']), by simp, by rw [countL_snoc]; simp; omega⟩ (by simp [hn]) ?_
    intro s hs
    rcases List.mem_append.1 hs with h | h
    · exact hp s h
    · rw [List.mem_singleton.1 h]; exact hpv
  objM ns ks l0 l hg hq hn hp := by
    rw [pObjM]
    refine okL.ite (fun h => ?_) (fun _ => okL.must hq.suf fun t q e _ => ?_)
    · obtain ⟨h40, hh⟩ := h
      obtain ⟨t, q, rfl, _⟩ := isH_some hh
      obtain ⟨a1, a2, pre, rfl, a3⟩ := hq
      exact H.field ns ks _ q hg ⟨a1, by omega, pre ++ [t], by simp, by simp; omega⟩ hn hp
    · subst e
      obtain ⟨a1, a2, pre, rfl, a3⟩ := hq
      exact ⟨⟨a1, a2, pre ++ [t], by simp, by simp; omega⟩, hn, hp, pre, t, rfl, a3⟩
  block l hg := by
    rw [pBlock]
    refine okR.must (List.suffix_refl _) fun t q e _ => ?_
    subst e
    refine okL.bind (H.stmts [] (t :: q) q hg ⟨by simp, by simp, [t], rfl, by simp [countL]⟩) fun _ ts l' hq => ?_
    refine okR.must hq.suf fun v z ez _ => ?_
    subst ez
    obtain ⟨a1, a2, pre, e, a3⟩ := hq
    exact ⟨.block ts 0 a2 a1, pre, v, e, by unfold ndK; rw [countK]; omega⟩
  stmts ks l0 l hg hq := by
    rw [pStmts]
    refine okL.ite (fun h => ?_) (fun _ => hq)
    refine okR.bindL ((H.stmt l (gt_suf hg hq.suf)).up hq.suf fun _ _ _ h => h) fun e b l' hq' => ?_
    obtain ⟨a1, a2, pre, rfl, a3⟩ := hq
    obtain ⟨b1, pre', u', rfl, b2⟩ := hq'
    exact H.stmts _ _ l' hg ⟨fun x hx => (List.mem_append.1 hx).elim (a1 x) (fun h => by rw [List.mem_singleton.1 h]; exact b1), by simp; omega, pre ++ pre' ++ [u'], by simp, by rw [countL_snoc]; simp; omega⟩
  ask l hg := by
    rw [pAsk]
    refine okR.must (List.suffix_refl _) fun t q e _ => ?_
    subst e
    have hsuf := List.suffix_cons t q
    refine okR.bind ((H.rank 1 q (gt_suf hg hsuf)).up hsuf fun _ _ _ h => h) fun e b l' hq => ?_
    refine okR.must (hq.suf.trans hsuf) fun v z ez _ => ?_
    subst ez
    obtain ⟨h1, pre, u, rfl, hc, _, _⟩ := hq
    exact ⟨h1, t :: (pre ++ [u]), v, by simp, by simp; omega⟩
  stmt l hg := by
    rw [pStmt]
    refine okR.ite (fun h => ?_) (fun _ => okR.ite (fun h => ?_) (fun _ => ?_))
    · obtain ⟨t, q, rfl, _⟩ := isH_some h
      simp only [List.tail_cons]
      have hsuf := List.suffix_cons t q
      refine okR.bind ((H.ask q (gt_suf hg hsuf)).up hsuf fun _ _ _ h => h) fun e b l' hq => ?_
      obtain ⟨e1, pe, ue, rfl, ec⟩ := hq
      have hs1 : l' <:+ t :: (pe ++ ue :: l') := ⟨t :: (pe ++ [ue]), by simp⟩
      refine okR.bind ((H.block l' (gt_suf hg hs1)).up hs1 fun _ _ _ h => h) fun y b l'' hq2 => ?_
      obtain ⟨y1, py, uy, rfl, yc⟩ := hq2
      refine okR.ite (fun h2 => ?_) (fun _ => ?_)
      · obtain ⟨t2, q2, rfl, _⟩ := isH_some h2
        simp only [List.tail_cons]
        have hs2 : q2 <:+ t :: (pe ++ ue :: (py ++ uy :: t2 :: q2)) := ⟨t :: (pe ++ ue :: (py ++ [uy, t2])), by simp⟩
        refine okR.bind ((H.block q2 (gt_suf hg hs2)).up hs2 fun _ _ _ h => h) fun z b l3 hq3 => ?_
        obtain ⟨z1, pz, uz, rfl, zc⟩ := hq3
        exact ⟨.iff e y z 0 e1 y1 z1, t :: (pe ++ ue :: (py ++ uy :: t2 :: pz)), uz, by simp, by unfold ndK; rw [countK, countL_3]; simp; omega⟩
      · exact ⟨.iff e y (ndK 29 []) 0 e1 y1 (.block [] 0 (by simp) (by simp)), t :: (pe ++ ue :: py), uy, by simp, by unfold ndK; rw [countK, countL_3, countN_1]; simp; omega⟩
    · obtain ⟨t, q, rfl, _⟩ := isH_some h
      simp only [List.tail_cons]
      have hsuf := List.suffix_cons t q
      refine okR.bind ((H.ask q (gt_suf hg hsuf)).up hsuf fun _ _ _ h => h) fun e b l' hq => ?_
      obtain ⟨e1, pe, ue, rfl, ec⟩ := hq
      have hs1 : l' <:+ t :: (pe ++ ue :: l') := ⟨t :: (pe ++ [ue]), by simp⟩
      refine okR.bind ((H.block l' (gt_suf hg hs1)).up hs1 fun _ _ _ h => h) fun y b l'' hq2 => ?_
      obtain ⟨y1, py, uy, rfl, yc⟩ := hq2
      exact ⟨.whil e y 0 e1 y1, t :: (pe ++ ue :: py), uy, by simp, by unfold ndK; rw [countK, countL_2]; simp; omega⟩
    · refine okR.bind (H.short l hg) fun e b l' hq => ?_
      refine okR.must hq.suf fun v z ez _ => ?_
      subst ez
      obtain ⟨h1, pre, u, rfl, hc⟩ := hq
      exact ⟨h1, pre ++ [u], v, by simp, by simp; omega⟩
  short l hg := by
    rw [pShort]
    refine okR.ite (fun h => ?_) (fun _ => okR.ite (fun h => ?_) (fun _ => okR.ite (fun h => ?_) (fun _ => okR.ite (fun h => ?_) (fun _ => ?_))))
    · obtain ⟨t, q, rfl, _⟩ := isH_some h
      simp only [List.tail_cons]
      refine okR.word (List.suffix_cons t q) fun v z ez hv => ?_
      subst ez
      have hp := word_proper (hg v (by simp)) (by rcases hv with h | ⟨h, _⟩; exact h; cases h)
      have hs1 : z <:+ t :: v :: z := suf_cons (suf_cons (List.suffix_refl _))
      refine okR.must hs1 fun v2 z2 ez2 _ => ?_
      subst ez2
      have hs2 := suf_cons hs1
      refine okR.bind ((H.rank 1 z2 (gt_suf hg hs2)).up hs2 fun _ _ _ h => h) fun e b l' hq => ?_
      obtain ⟨h1, pre, u, rfl, hc, _, _⟩ := hq
      exact ⟨.slet v.text e _ hp h1, t :: v :: v2 :: pre, u, by simp, by rw [countK, countL_1]; simp; omega⟩
    · obtain ⟨t, q, rfl, _⟩ := isH_some h
      simp only [List.tail_cons]
      have hsuf := List.suffix_cons t q
      refine okR.bind ((H.rank 1 q (gt_suf hg hsuf)).up hsuf fun _ _ _ h => h) fun e b l' hq => ?_
      obtain ⟨h1, pre, u, rfl, hc, _, _⟩ := hq
      exact ⟨.print e 0 h1, t :: pre, u, by simp, by unfold ndK; rw [countK, countL_1]; simp; omega⟩
    · obtain ⟨t, q, rfl, _⟩ := isH_some h
      simp only [List.tail_cons]
      have hsuf := List.suffix_cons t q
      refine okR.bind ((H.rank 1 q (gt_suf hg hsuf)).up hsuf fun _ _ _ h => h) fun e b l' hq => ?_
      obtain ⟨h1, pre, u, rfl, hc, _, _⟩ := hq
      exact ⟨.ret e 0 h1, t :: pre, u, by simp, by unfold ndK; rw [countK, countL_1]; simp; omega⟩
    · obtain ⟨t, q, rfl, _⟩ := isH_some h
      simp only [List.tail_cons]
      have hsuf := List.suffix_cons t q
      refine okR.bind ((H.post q (gt_suf hg hsuf)).up hsuf fun _ _ _ h => h) fun e b l' hq => ?_
      have hs' := hq.suf.trans hsuf
      obtain ⟨h1, pre, u, rfl, hc, _, hb⟩ := hq
      refine okR.ite (fun hc5 => ?_) (fun _ => hs')
      obtain ⟨hbt, h5⟩ := hc5
      rcases hb hbt with h | h | h
      · exact absurd h h5
      · obtain ⟨x, p, ee, hp, hx⟩ := rt_get h1 h
        rw [ee] at hc
        rw [countK, countL_1] at hc
        refine ⟨?_, t :: pre, u, by simp, ?_⟩
        · rw [if_pos h, ee]; exact .del _ x 0 hp hx
        · rw [if_pos h, ee]; unfold ndS; show countN (.mk 25 0 0 _ [] [x] 0) ≤ _; rw [countK, countL_1]; simp; omega
      · obtain ⟨x, y, p, ee, hx, hy⟩ := rt_index h1 h
        rw [ee] at hc
        rw [countK, countL_2] at hc
        refine ⟨?_, t :: pre, u, by simp, ?_⟩
        · rw [if_neg (by omega), ee]; exact .delix x y 0 hx hy
        · rw [if_neg (by omega), ee]; unfold ndK; show countN (.mk 26 0 0 bz [] [x, y] 0) ≤ _; rw [countK, countL_2]; simp; omega
    · refine okR.bind (H.rank 1 l hg) fun e b l' hq => ?_
      refine okR.ite (fun hc5 => ?_) (fun _ => ?_)
      · obtain ⟨hbt, hh⟩ := hc5
        obtain ⟨t, q, rfl, _⟩ := isH_some hh
        simp only [List.tail_cons]
        have hsuf := suf_cons hq.suf
        refine okR.bind ((H.rank 1 q (gt_suf hg hsuf)).up hsuf fun _ _ _ h => h) fun v b' l'' hq' => ?_
        obtain ⟨h1, pre, u, rfl, hc, _, hb⟩ := hq
        obtain ⟨h1', pre', u', rfl, hc', _, _⟩ := hq'
        rcases hb hbt with h | h | h
        · obtain ⟨p, ee, hp⟩ := rt_name h1 h
          refine ⟨?_, pre ++ u :: t :: pre', u', by simp, ?_⟩
          · rw [ee]; exact .assign _ v p hp h1'
          · rw [ee]; show countN (.mk 22 0 0 _ [] [v] p) ≤ _; rw [countK, countL_1]; simp; omega
        · obtain ⟨x, p, ee, hp, hx⟩ := rt_get h1 h
          rw [ee] at hc
          rw [countK, countL_1] at hc
          refine ⟨?_, pre ++ u :: t :: pre', u', by simp, ?_⟩
          · rw [ee]; exact .set _ x v 0 hp hx h1'
          · rw [ee]; show countN (.mk 23 0 0 _ [] [x, v] 0) ≤ _; rw [countK, countL_2]; simp; omega
        · obtain ⟨x, y, p, ee, hx, hy⟩ := rt_index h1 h
          rw [ee] at hc
          rw [countK, countL_2] at hc
          refine ⟨?_, pre ++ u :: t :: pre', u', by simp, ?_⟩
          · rw [ee]; exact .setix x y v 0 hx hy h1'
          · rw [ee]; show countN (.mk 24 0 0 bz [] [x, y, v] 0) ≤ _; rw [countK, countL_3]; simp; omega
      · obtain ⟨h1, pre, u, rfl, hc, _, _⟩ := hq
        exact ⟨.sexpr e 0 h1, pre, u, rfl, by unfold ndK; rw [countK, countL_1]; simp; omega⟩
theorem may : ∀ f, MayZ f
  | 0 => may_0
  | f + 1 => may_succ (may f)

end Go.Proofs.YtijbiedblahmhaaDoor
