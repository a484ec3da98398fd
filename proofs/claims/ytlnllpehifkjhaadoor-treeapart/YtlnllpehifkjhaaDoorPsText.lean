/- A tree's text as tokens and blanks. -/
import Derived.Test.YtlnllpehifkjhaaDoorNdText
import Derived.Test.YtlnllpehifkjhaaDoorLexPure
namespace Go.Proofs.YtlnllpehifkjhaaDoor
open Go.RowKit

/-- a piece of a text: a blank, or a token -/
inductive Pc where
  | bl
  | tk (t : Tok)
def Pc.text : Pc → List UInt8
  | .bl => [32]
  | .tk t => tokText t
def laid (l : List Pc) : List UInt8 := l.flatMap Pc.text
/-- the tokens among them -/
def toksC : List Pc → List Tok
  | [] => []
  | .bl :: r => toksC r
  | .tk t :: r => t :: toksC r
theorem laid_nil : laid [] = [] := rfl
theorem laid_cons (p : Pc) (r : List Pc) : laid (p :: r) = p.text ++ laid r := by simp [laid]
theorem laid_append (a b : List Pc) : laid (a ++ b) = laid a ++ laid b := by simp [laid]
theorem toksC_append : ∀ a b : List Pc, toksC (a ++ b) = toksC a ++ toksC b
  | [], b => rfl
  | .bl :: r, b => by show toksC (r ++ b) = toksC r ++ toksC b; exact toksC_append r b
  | .tk t :: r, b => by show t :: toksC (r ++ b) = t :: toksC r ++ toksC b; rw [toksC_append r b]; rfl

/-- a key, a sign, a name, a property -/
def kwT (x : List UInt8) : Tok := ⟨2, ⟨x.toArray⟩, 0, 0⟩
def sgT (x : List UInt8) : Tok := ⟨5, ⟨x.toArray⟩, 0, 0⟩
def nmT (s : ByteArray) : Tok := ⟨1, s, 0, 0⟩
def ppT (s : ByteArray) : Tok := ⟨if keyB s.data.toList then 2 else 1, s, 0, 0⟩
def kw (x : List UInt8) : Pc := .tk (kwT x)
def sg (x : List UInt8) : Pc := .tk (sgT x)
def nm (s : ByteArray) : Pc := .tk (nmT s)
def pp (s : ByteArray) : Pc := .tk (ppT s)
theorem kw_text (x : List UInt8) : (kw x).text = x := by simp [kw, kwT, Pc.text, tokText]
theorem sg_text (x : List UInt8) : (sg x).text = x := by simp [sg, sgT, Pc.text, tokText]
theorem nm_text (s : ByteArray) : (nm s).text = s.data.toList := by simp [nm, nmT, Pc.text, tokText]
theorem pp_text (s : ByteArray) : (pp s).text = s.data.toList := by
  unfold pp ppT Pc.text tokText
  cases keyB s.data.toList <;> rfl
theorem bl_text : Pc.bl.text = [32] := rfl

structure Px where
  kind : Int
  rank : Int
  e : List Pc
  s : List Pc
  b : List Pc
  has : Bool
def Px.tx (x : Px) : Tx := ⟨x.kind, x.rank, laid x.e, laid x.s, laid x.b, x.has⟩
def Px.none : Px := ⟨0, 0, [], [], [], false⟩

def wordC (k n : Int) (s : ByteArray) : Pc :=
  if k = 1 then kw [110, 117, 108, 108] else if k = 6 then kw [116, 104, 105, 115] else if k = 2 then (if n = 0 then kw [102, 97, 108, 115, 101] else kw [116, 114, 117, 101])
  else if k = 3 then .tk ⟨3, ⟨(digs n).toArray⟩, n, 0⟩ else if k = 4 then .tk ⟨4, s, 0, 0⟩ else nm s
def tightC (x : Px) (least : Int) : List Pc := if least ≤ x.rank then x.e else sg [40] :: (x.e ++ [sg [41]])
def commasC (l : List Px) : List Pc := l.flatMap fun x => sg [44] :: .bl :: x.e
def listC : List Px → List Pc
  | [] => []
  | x :: r => x.e ++ commasC r
def argsC (l : List Px) : List Pc := sg [40] :: (listC l ++ [sg [41]])
def fieldC (s : ByteArray) (x : Px) : List Pc := pp s :: sg [58] :: .bl :: x.e
def fieldsC : List ByteArray → List Px → List Pc
  | s :: ns, x :: r => sg [44] :: .bl :: (fieldC s x ++ fieldsC ns r)
  | _, _ => []
def objC : List ByteArray → List Px → List Pc
  | s :: ns, x :: r => sg [123] :: (fieldC s x ++ fieldsC ns r ++ [sg [125]])
  | _, _ => [sg [123], sg [125]]
def namesC (ns : List ByteArray) : List Pc := ns.flatMap fun x => [sg [44], .bl, nm x]
def joinC : List ByteArray → List Pc
  | [] => []
  | s :: r => nm s :: namesC r
def blanksC (l : List Px) : List Pc := l.flatMap fun x => .bl :: x.s
def blockC (l : List Px) : List Pc := sg [123] :: (blanksC l ++ (if l.isEmpty then [sg [125]] else [.bl, sg [125]]))
def programC : List Px → List Pc
  | [] => []
  | x :: r => x.s ++ blanksC r
def getC (x : Px) (s : ByteArray) : List Pc := tightC x 8 ++ [sg [46], pp s]
def indexC (x y : Px) : List Pc := tightC x 8 ++ (sg [91] :: (y.e ++ [sg [93]]))
def becomesC (x : Px) : List Pc := .bl :: sg [61] :: .bl :: x.e
def betweenC (r : Int) (g : List UInt8) (x y : Px) : List Pc := tightC x r ++ (.bl :: sg g :: .bl :: tightC y (r + 1))
def c0 (l : List Px) : Px := l.getD 0 Px.none
def c1 (l : List Px) : Px := l.getD 1 Px.none
def c2 (l : List Px) : Px := l.getD 2 Px.none
def exprC (k o n : Int) (s : ByteArray) (ns : List ByteArray) (l : List Px) : List Pc :=
  if k = 7 then objC ns l
  else if k = 8 then kw [102, 110] :: sg [40] :: (joinC ns ++ (sg [41] :: .bl :: blockC l))
  else if k = 9 then sg [if o = 1 then 45 else 33] :: tightC (c0 l) 7
  else if k = 10 then betweenC (rankT 10 o) (signT o) (c0 l) (c1 l)
  else if k = 11 then betweenC 2 [38, 38] (c0 l) (c1 l)
  else if k = 12 then betweenC 1 [124, 124] (c0 l) (c1 l)
  else if k = 13 then getC (c0 l) s
  else if k = 14 then indexC (c0 l) (c1 l)
  else if k = 15 then tightC (c0 l) (if (c0 l).kind = 13 then 9 else 8) ++ argsC l.tail
  else if k = 16 then getC (c0 l) s ++ argsC l.tail
  else if k = 17 then kw (builtT o).1 :: argsC l
  else [wordC k n s]
def shortC (k : Int) (s : ByteArray) (l : List Px) : List Pc :=
  if k = 21 then kw [108, 101, 116] :: .bl :: nm s :: becomesC (c0 l)
  else if k = 22 then nm s :: becomesC (c0 l)
  else if k = 23 then getC (c0 l) s ++ becomesC (c1 l)
  else if k = 24 then indexC (c0 l) (c1 l) ++ becomesC (c2 l)
  else if k = 25 then kw [100, 101, 108, 101, 116, 101] :: .bl :: getC (c0 l) s
  else if k = 26 then kw [100, 101, 108, 101, 116, 101] :: .bl :: indexC (c0 l) (c1 l)
  else if k = 27 then kw [112, 114, 105, 110, 116] :: .bl :: (c0 l).e
  else if k = 31 then kw [114, 101, 116, 117, 114, 110] :: .bl :: (c0 l).e
  else if k = 32 then (c0 l).e else []
def branchC (key : List UInt8) (x y : Px) : List Pc := kw key :: .bl :: sg [40] :: (x.e ++ (sg [41] :: .bl :: y.b))
def stmtC (k : Int) (s : ByteArray) (l : List Px) : List Pc :=
  if k = 28 then branchC [105, 102] (c0 l) (c1 l) ++ (if (c2 l).has then .bl :: kw [101, 108, 115, 101] :: .bl :: (c2 l).b else [])
  else if k = 30 then branchC [119, 104, 105, 108, 101] (c0 l) (c1 l)
  else shortC k s l ++ [sg [59]]

mutual
def pcN : Nd → Px
  | .mk k o n s ns ks _ => ⟨k, rankT k o, exprC k o n s ns (pcL ks), stmtC k s (pcL ks), blockC (pcL ks), !ks.isEmpty⟩
def pcL : List Nd → List Px
  | [] => []
  | x :: r => pcN x :: pcL r
end
theorem pcL_map : ∀ l : List Nd, pcL l = l.map pcN
  | [] => by rw [pcL]; rfl
  | x :: r => by rw [pcL, pcL_map r]; rfl
theorem pcN_mk (k o n : Int) (s : ByteArray) (ns : List ByteArray) (ks : List Nd) (p : Int) :
    pcN (.mk k o n s ns ks p) = ⟨k, rankT k o, exprC k o n s ns (ks.map pcN), stmtC k s (ks.map pcN), blockC (ks.map pcN), !ks.isEmpty⟩ := by
  rw [pcN, pcL_map]

/-! laid, they are the text -/
theorem tx_none : Px.none.tx = Tx.none := rfl
theorem getD_tx (l : List Px) (i : Nat) : (l.map Px.tx).getD i Tx.none = (l.getD i Px.none).tx := by
  rw [List.getD_eq_getElem?_getD, List.getD_eq_getElem?_getD, List.getElem?_map]
  cases l[i]? <;> rfl
theorem c0_tx (l : List Px) : at0 (l.map Px.tx) = (c0 l).tx := getD_tx l 0
theorem c1_tx (l : List Px) : at1 (l.map Px.tx) = (c1 l).tx := getD_tx l 1
theorem c2_tx (l : List Px) : at2 (l.map Px.tx) = (c2 l).tx := getD_tx l 2
theorem word_laid (k n : Int) (s : ByteArray) : (wordC k n s).text = wordT k n s := by
  unfold wordC wordT
  split
  · rw [kw_text]
  split
  · rw [kw_text]
  split
  · split <;> rw [kw_text]
  split
  · simp [Pc.text, tokText]
  split
  · simp [Pc.text, tokText]
  · rw [nm_text]
theorem tight_laid (x : Px) (r : Int) : laid (tightC x r) = tightT x.tx r := by
  unfold tightC tightT
  show laid (if r ≤ x.rank then x.e else _) = if r ≤ x.rank then laid x.e else _
  split
  · rfl
  · simp [laid_cons, laid_append, sg_text, laid_nil, Px.tx]
theorem commas_laid : ∀ l : List Px, laid (commasC l) = commasT (l.map Px.tx)
  | [] => rfl
  | x :: r => by
    have := commas_laid r
    simp only [commasC, commasT, List.flatMap_cons, List.map_cons, laid_append, laid_cons, sg_text, bl_text] at *
    rw [this]; simp [Px.tx]
theorem list_laid (l : List Px) : laid (listC l) = listT (l.map Px.tx) := by
  cases l with
  | nil => rfl
  | cons x r => rw [listC, List.map_cons, listT, laid_append, commas_laid]; rfl
theorem args_laid (l : List Px) : laid (argsC l) = argsT (l.map Px.tx) := by
  unfold argsC argsT
  rw [laid_cons, laid_append, list_laid, laid_cons, sg_text, sg_text]; rfl
theorem fields_laid : ∀ (ns : List ByteArray) (l : List Px), laid (fieldsC ns l) = fieldsT ns (l.map Px.tx)
  | [], l => by cases l <;> rfl
  | s :: ns, [] => rfl
  | s :: ns, x :: r => by
    rw [fieldsC, List.map_cons, fieldsT, ← fields_laid ns r]
    simp [laid_cons, laid_append, sg_text, pp_text, bl_text, fieldC, fieldT, Px.tx]
theorem obj_laid (ns : List ByteArray) (l : List Px) : laid (objC ns l) = objT ns (l.map Px.tx) := by
  cases ns with
  | nil => cases l <;> simp [objC, objT, laid_cons, sg_text, laid_nil]
  | cons s ns =>
    cases l with
    | nil => simp [objC, objT, laid_cons, sg_text, laid_nil]
    | cons x r =>
      rw [objC, List.map_cons, objT, ← fields_laid ns r]
      simp [laid_cons, laid_append, sg_text, pp_text, bl_text, fieldC, fieldT, Px.tx, laid_nil]
theorem join_laid (ns : List ByteArray) : laid (joinC ns) = joinT ns := by
  cases ns with
  | nil => rfl
  | cons s r =>
    rw [joinC, joinT, laid_cons, nm_text]
    congr 1
    induction r with
    | nil => rfl
    | cons y r ih => simp only [namesC, List.flatMap_cons, laid_append, laid_cons, sg_text, bl_text, nm_text] at *; rw [ih]; simp [laid_nil]
theorem blanks_laid : ∀ l : List Px, laid (blanksC l) = blanksT (l.map Px.tx)
  | [] => rfl
  | x :: r => by
    have := blanks_laid r
    simp only [blanksC, blanksT, List.flatMap_cons, List.map_cons, laid_append, laid_cons, bl_text] at *
    rw [this]; simp [Px.tx]
theorem block_laid (l : List Px) : laid (blockC l) = blockT (l.map Px.tx) := by
  unfold blockC blockT
  rw [laid_cons, laid_append, blanks_laid, sg_text]
  cases l <;> simp [laid_cons, laid_nil, sg_text, bl_text]
theorem program_laid (l : List Px) : laid (programC l) = programT (l.map Px.tx) := by
  cases l with
  | nil => rfl
  | cons x r => rw [programC, List.map_cons, programT, laid_append, blanks_laid]; rfl
theorem get_laid (x : Px) (s : ByteArray) : laid (getC x s) = getT x.tx s := by
  unfold getC getT
  rw [laid_append, tight_laid]; simp [laid_cons, laid_nil, sg_text, pp_text]
theorem index_laid (x y : Px) : laid (indexC x y) = indexT x.tx y.tx := by
  unfold indexC indexT
  rw [laid_append, tight_laid]; simp [laid_cons, laid_nil, laid_append, sg_text, Px.tx]
theorem becomes_laid (x : Px) : laid (becomesC x) = becomesT x.tx := by
  unfold becomesC becomesT
  simp [laid_cons, sg_text, bl_text, Px.tx]
theorem between_laid (r : Int) (g : List UInt8) (x y : Px) : laid (betweenC r g x y) = betweenT r g x.tx y.tx := by
  unfold betweenC betweenT
  rw [laid_append, tight_laid]; simp [laid_cons, tight_laid, sg_text, bl_text]
theorem expr_laid (k o n : Int) (s : ByteArray) (ns : List ByteArray) (l : List Px) : laid (exprC k o n s ns l) = exprT k o n s ns (l.map Px.tx) := by
  unfold exprC exprT
  rw [c0_tx, c1_tx]
  by_cases h7 : k = 7
  · rw [if_pos h7, if_pos h7]
    exact obj_laid ns l
  rw [if_neg h7, if_neg h7]
  by_cases h8 : k = 8
  · rw [if_pos h8, if_pos h8]
    simp [laid_cons, laid_append, kw_text, sg_text, bl_text, join_laid, block_laid]
  rw [if_neg h8, if_neg h8]
  by_cases h9 : k = 9
  · rw [if_pos h9, if_pos h9]
    rw [laid_cons, tight_laid, sg_text]; rfl
  rw [if_neg h9, if_neg h9]
  by_cases h10 : k = 10
  · rw [if_pos h10, if_pos h10]
    exact between_laid _ _ _ _
  rw [if_neg h10, if_neg h10]
  by_cases h11 : k = 11
  · rw [if_pos h11, if_pos h11]
    exact between_laid _ _ _ _
  rw [if_neg h11, if_neg h11]
  by_cases h12 : k = 12
  · rw [if_pos h12, if_pos h12]
    exact between_laid _ _ _ _
  rw [if_neg h12, if_neg h12]
  by_cases h13 : k = 13
  · rw [if_pos h13, if_pos h13]
    exact get_laid _ _
  rw [if_neg h13, if_neg h13]
  by_cases h14 : k = 14
  · rw [if_pos h14, if_pos h14]
    exact index_laid _ _
  rw [if_neg h14, if_neg h14]
  by_cases h15 : k = 15
  · rw [if_pos h15, if_pos h15]
    rw [laid_append, tight_laid, args_laid, List.map_tail]; rfl
  rw [if_neg h15, if_neg h15]
  by_cases h16 : k = 16
  · rw [if_pos h16, if_pos h16]
    rw [laid_append, get_laid, args_laid, List.map_tail]
  rw [if_neg h16, if_neg h16]
  by_cases h17 : k = 17
  · rw [if_pos h17, if_pos h17]
    rw [laid_cons, args_laid, kw_text]
  rw [if_neg h17, if_neg h17]
  rw [laid_cons, word_laid, laid_nil, List.append_nil]
theorem short_laid (k : Int) (s : ByteArray) (l : List Px) : laid (shortC k s l) = shortT k s (l.map Px.tx) := by
  unfold shortC shortT
  rw [c0_tx, c1_tx, c2_tx]
  by_cases h21 : k = 21
  · rw [if_pos h21, if_pos h21]
    simp [laid_cons, kw_text, nm_text, bl_text, becomes_laid]
  rw [if_neg h21, if_neg h21]
  by_cases h22 : k = 22
  · rw [if_pos h22, if_pos h22]
    simp [laid_cons, nm_text, becomes_laid]
  rw [if_neg h22, if_neg h22]
  by_cases h23 : k = 23
  · rw [if_pos h23, if_pos h23]
    rw [laid_append, get_laid, becomes_laid]
  rw [if_neg h23, if_neg h23]
  by_cases h24 : k = 24
  · rw [if_pos h24, if_pos h24]
    rw [laid_append, index_laid, becomes_laid]
  rw [if_neg h24, if_neg h24]
  by_cases h25 : k = 25
  · rw [if_pos h25, if_pos h25]
    simp [laid_cons, kw_text, bl_text, get_laid]
  rw [if_neg h25, if_neg h25]
  by_cases h26 : k = 26
  · rw [if_pos h26, if_pos h26]
    simp [laid_cons, kw_text, bl_text, index_laid]
  rw [if_neg h26, if_neg h26]
  by_cases h27 : k = 27
  · rw [if_pos h27, if_pos h27]
    simp [laid_cons, kw_text, bl_text, Px.tx]
  rw [if_neg h27, if_neg h27]
  by_cases h31 : k = 31
  · rw [if_pos h31, if_pos h31]
    simp [laid_cons, kw_text, bl_text, Px.tx]
  rw [if_neg h31, if_neg h31]
  by_cases h32 : k = 32
  · rw [if_pos h32, if_pos h32]
    rfl
  rw [if_neg h32, if_neg h32]
  rfl
theorem stmt_laid (k : Int) (s : ByteArray) (l : List Px) : laid (stmtC k s l) = stmtT k s (l.map Px.tx) := by
  have br : ∀ key x y, laid (branchC key x y) = branchT key x.tx y.tx := by
    intro key x y
    simp [branchC, branchT, laid_cons, laid_append, kw_text, sg_text, bl_text, Px.tx]
  unfold stmtC stmtT
  rw [c0_tx, c1_tx, c2_tx]
  split
  · rw [laid_append, br]
    congr 1
    show _ = if (c2 l).has = true then _ else _
    split
    · simp [laid_cons, kw_text, bl_text, Px.tx]
    · rfl
  split
  · exact br _ _ _
  · rw [laid_append, short_laid, laid_cons, sg_text]; rfl
theorem pcN_tx (t : Nd) : (pcN t).tx = textN t := by
  refine Nd.ind (P := fun t => (pcN t).tx = textN t) ?_ t
  intro k o n s ns ks p ih
  have e : (ks.map pcN).map Px.tx = ks.map textN := by rw [List.map_map]; exact List.map_congr_left ih
  rw [pcN_mk, textN_mk]
  show Tx.mk _ _ _ _ _ _ = _
  rw [expr_laid, stmt_laid, block_laid, e]
/-- a program's pieces -/
def printC (t : Nd) : List Pc := programC (t.kids.map pcN)
theorem print_laid (t : Nd) : laid (printC t) = printT t := by
  unfold printC printT
  rw [program_laid, List.map_map]
  congr 1
  exact List.map_congr_left fun x _ => pcN_tx x

end Go.Proofs.YtlnllpehifkjhaaDoor
