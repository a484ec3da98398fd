/- Places play no part in what is read. -/
import Derived.Test.YtlnllpehifkjhaaDoorPsPlain
namespace Go.Proofs.YtlnllpehifkjhaaDoor
open Go.RowKit

/-- a token, a node without its place -/
def zt (t : Tok) : Tok := ⟨t.kind, t.text, t.num, 0⟩
mutual
def zN : Nd → Nd
  | .mk k o n s ns ks _ => .mk k o n s ns (zL ks) 0
def zL : List Nd → List Nd
  | [] => []
  | x :: r => zN x :: zL r
end
theorem zL_map : ∀ l : List Nd, zL l = l.map zN
  | [] => by rw [zL]; rfl
  | x :: r => by rw [zL, zL_map r]; rfl
theorem zN_mk (k o n : Int) (s : ByteArray) (ns : List ByteArray) (ks : List Nd) (p : Int) : zN (.mk k o n s ns ks p) = .mk k o n s ns (ks.map zN) 0 := by rw [zN, zL_map]
def PR.z : PR → PR
  | .ok t b l => .ok (zN t) b (l.map zt)
  | .bad l => .bad (l.map zt)
def PL.z : PL → PL
  | .ok ns ts l => .ok ns (ts.map zN) (l.map zt)
  | .bad l => .bad (l.map zt)

theorem zN_kind (t : Nd) : (zN t).kind = t.kind := by cases t; rw [zN]; rfl
theorem zN_str (t : Nd) : (zN t).str = t.str := by cases t; rw [zN]; rfl
theorem zN_kids (t : Nd) : (zN t).kids = t.kids.map zN := by cases t; rw [zN_mk]; rfl
theorem cur_z (l : List Tok) : cur (l.map zt) = zt (cur l) := by cases l <;> rfl
theorem kind_z (l : List Tok) : (cur (l.map zt)).kind = (cur l).kind := by rw [cur_z]; rfl
theorem text_z (l : List Tok) : (cur (l.map zt)).text = (cur l).text := by rw [cur_z]; rfl
theorem num_z (l : List Tok) : (cur (l.map zt)).num = (cur l).num := by rw [cur_z]; rfl
theorem pl_z (l : List Tok) : (cur (l.map zt)).pl = 0 := by rw [cur_z]; rfl
theorem isH_z (l : List Tok) (x : List UInt8) : isH (l.map zt) x = isH l x := by unfold isH; rw [cur_z]; rfl
theorem isW_z (k : Bool) (l : List Tok) : isW k (l.map zt) = isW k l := by unfold isW; rw [kind_z]
theorem tail_z (l : List Tok) : (l.map zt).tail = l.tail.map zt := by cases l <;> rfl
theorem signF_z : ∀ (s : List (List UInt8 × Int × Int)) (l : List Tok), signF s (l.map zt) = signF s l
  | [], _ => rfl
  | (x, k, o) :: r, l => by rw [signF, signF, isH_z, signF_z r l]
theorem signP_z (r : Nat) (l : List Tok) : signP r (l.map zt) = signP r l := signF_z _ l
theorem builtF_z : ∀ (s : List Int) (l : List Tok), builtF s (l.map zt) = builtF s l
  | [], _ => rfl
  | o :: r, l => by rw [builtF, builtF, isH_z, builtF_z r l]
theorem builtP_z (l : List Tok) : builtP (l.map zt) = builtP l := builtF_z _ l

theorem PR.bind_z {x x' : PR} {k k' : Nd → Bool → List Tok → PR} (hx : x.z = x') (hk : ∀ t b l, (k t b l).z = k' (zN t) b (l.map zt)) : (x.bind k).z = x'.bind k' := by
  subst hx; cases x with
  | ok t b l => exact hk t b l
  | bad l => rfl
theorem PR.bindL_z {x x' : PR} {k k' : Nd → Bool → List Tok → PL} (hx : x.z = x') (hk : ∀ t b l, (k t b l).z = k' (zN t) b (l.map zt)) : (x.bindL k).z = x'.bindL k' := by
  subst hx; cases x with
  | ok t b l => exact hk t b l
  | bad l => rfl
theorem PL.bind_z {x x' : PL} {k k' : List ByteArray → List Nd → List Tok → PR} (hx : x.z = x') (hk : ∀ t b l, (k t b l).z = k' t (b.map zN) (l.map zt)) : (x.bind k).z = x'.bind k' := by
  subst hx; cases x with
  | ok t b l => exact hk t b l
  | bad l => rfl
theorem must_z {x : List UInt8} {l : List Tok} {k k' : List Tok → PR} (hk : ∀ l, (k l).z = k' (l.map zt)) : (must x l k).z = must x (l.map zt) k' := by
  unfold must; rw [isH_z, tail_z]; split
  · exact hk _
  · rfl
theorem mustL_z {x : List UInt8} {l : List Tok} {k k' : List Tok → PL} (hk : ∀ l, (k l).z = k' (l.map zt)) : (mustL x l k).z = mustL x (l.map zt) k' := by
  unfold mustL; rw [isH_z, tail_z]; split
  · exact hk _
  · rfl
theorem wordP_z {x : Bool} {l : List Tok} {k k' : ByteArray → List Tok → PR} (hk : ∀ s l, (k s l).z = k' s (l.map zt)) : (wordP x l k).z = wordP x (l.map zt) k' := by
  unfold wordP; rw [isW_z, tail_z, text_z]; split
  · exact hk _ _
  · rfl
theorem wordL_z {x : Bool} {l : List Tok} {k k' : ByteArray → List Tok → PL} (hk : ∀ s l, (k s l).z = k' s (l.map zt)) : (wordL x l k).z = wordL x (l.map zt) k' := by
  unfold wordL; rw [isW_z, tail_z, text_z]; split
  · exact hk _ _
  · rfl
theorem ite_z {c : Prop} [Decidable c] {a b a' b' : PR} (h1 : a.z = a') (h2 : b.z = b') : (if c then a else b).z = if c then a' else b' := by split <;> assumption
theorem iteL_z {c : Prop} [Decidable c] {a b a' b' : PL} (h1 : a.z = a') (h2 : b.z = b') : (if c then a else b).z = if c then a' else b' := by split <;> assumption
theorem okR {t t' : Nd} {b : Bool} {l : List Tok} (h : zN t = t') : (PR.ok t b l).z = .ok t' b (l.map zt) := by subst h; rfl
theorem okL {ns : List ByteArray} {ts ts' : List Nd} {l : List Tok} (h : ts.map zN = ts') : (PL.ok ns ts l).z = .ok ns ts' (l.map zt) := by subst h; rfl
theorem zK (k : Int) (ks : List Nd) : zN (ndK k ks) = ndK k (ks.map zN) := zN_mk _ _ _ _ _ _ _
theorem zO (k o : Int) (ks : List Nd) : zN (ndO k o ks) = ndO k o (ks.map zN) := zN_mk _ _ _ _ _ _ _
theorem zS (k : Int) (s : ByteArray) (ks : List Nd) : zN (ndS k s ks) = ndS k s (ks.map zN) := zN_mk _ _ _ _ _ _ _
theorem become_z (e v : Nd) : zN (becomeN e v) = becomeN (zN e) (zN v) := by
  unfold becomeN
  rw [zN_kind, zN_str, zN_kids]
  split
  · rw [zS]; simp
  split
  · rw [zK]; simp
  · rw [zN_mk]; simp
    cases e; rw [zN_mk]; rfl

theorem pPar_z : ∀ (f : Nat) (ns : List ByteArray) (l : List Tok), (pPar f ns l).z = pPar f ns (l.map zt)
  | 0, _, _ => rfl
  | f + 1, ns, l => by
    rw [pPar, pPar]
    refine wordL_z fun s l => ?_
    rw [isH_z, tail_z]
    exact iteL_z (pPar_z f _ _) (mustL_z fun l => rfl)
theorem pPars_z (l : List Tok) : (pPars l).z = pPars (l.map zt) := by
  unfold pPars
  rw [isH_z, tail_z]
  exact iteL_z rfl (pPar_z _ _ _)

structure NatZ (f : Nat) : Prop where
  rank : ∀ r l, (pRank f r l).z = pRank f r (l.map zt)
  more : ∀ r e b l, (pMore f r e b l).z = pMore f r (zN e) b (l.map zt)
  post : ∀ l, (pPost f l).z = pPost f (l.map zt)
  tail : ∀ e b l, (pTail f e b l).z = pTail f (zN e) b (l.map zt)
  args : ∀ ks l, (pArgs f ks l).z = pArgs f (ks.map zN) (l.map zt)
  argsM : ∀ ks l, (pArgsM f ks l).z = pArgsM f (ks.map zN) (l.map zt)
  atom : ∀ l, (pAtom f l).z = pAtom f (l.map zt)
  obj : ∀ l, (pObj f l).z = pObj f (l.map zt)
  field : ∀ ns ks l, (pField f ns ks l).z = pField f ns (ks.map zN) (l.map zt)
  objM : ∀ ns ks l, (pObjM f ns ks l).z = pObjM f ns (ks.map zN) (l.map zt)
  block : ∀ l, (pBlock f l).z = pBlock f (l.map zt)
  stmts : ∀ ks l, (pStmts f ks l).z = pStmts f (ks.map zN) (l.map zt)
  ask : ∀ l, (pAsk f l).z = pAsk f (l.map zt)
  stmt : ∀ l, (pStmt f l).z = pStmt f (l.map zt)
  short : ∀ l, (pShort f l).z = pShort f (l.map zt)

theorem natZ_0 : NatZ 0 := by
  constructor <;> intros <;> simp only [pRank, pMore, pPost, pTail, pArgs, pArgsM, pAtom, pObj, pField, pObjM, pBlock, pStmts, pAsk, pStmt, pShort] <;> rfl

theorem natZ_succ {f : Nat} (H : NatZ f) : NatZ (f + 1) where
  rank r l := by
    rw [pRank, pRank]
    simp only [isH_z, tail_z]
    refine ite_z (ite_z (PR.bind_z (H.rank _ _) fun e b l => okR (zO _ _ _)) (ite_z (PR.bind_z (H.rank _ _) fun e b l => okR (zO _ _ _)) (H.post _))) (PR.bind_z (H.rank _ _) fun e b l => H.more _ _ _ _)
  more r e b l := by
    rw [pMore, pMore, signP_z]
    cases signP r l with
    | none => rfl
    | some p =>
      obtain ⟨k, o⟩ := p
      simp only [tail_z]
      refine PR.bind_z (H.rank _ _) fun e' b l => ?_
      rw [H.more, zO]; rfl
  post l := by
    rw [pPost, pPost]
    exact PR.bind_z (H.atom _) fun e b l => H.tail _ _ _
  tail e b l := by
    rw [pTail, pTail]
    simp only [isH_z, tail_z]
    refine ite_z (wordP_z fun s l => ?_) (ite_z (PR.bind_z (H.rank _ _) fun i b l => must_z fun l => ?_) (ite_z (PL.bind_z (H.args _ _) fun _ ks l => ?_) rfl))
    · simp only [isH_z, tail_z]
      refine ite_z (PL.bind_z (H.args _ _) fun _ ks l => ?_) ?_
      · rw [H.tail, zS]
      · rw [H.tail, zS]; rfl
    · rw [H.tail, zK]; rfl
    · rw [H.tail, zK]
  args ks l := by
    rw [pArgs, pArgs]
    simp only [isH_z, tail_z]
    refine iteL_z (okL rfl) (PR.bindL_z (H.rank _ _) fun e b l => ?_)
    rw [H.argsM, List.map_append]; rfl
  argsM ks l := by
    rw [pArgsM, pArgsM]
    simp only [isH_z, tail_z, List.length_map]
    refine iteL_z (PR.bindL_z (H.rank _ _) fun e b l => ?_) (mustL_z fun l => okL rfl)
    rw [H.argsM, List.map_append]; rfl
  atom l := by
    rw [pAtom, pAtom]
    simp only [isH_z, tail_z, kind_z, text_z, num_z, pl_z, builtP_z]
    refine ite_z (okR (zN_mk _ _ _ _ _ _ _)) (ite_z (okR (zS _ _ _)) (ite_z (okR (zN_mk _ _ _ _ _ _ _)) (ite_z (okR (zK _ _)) (ite_z (okR (zN_mk _ _ _ _ _ _ _)) (ite_z (okR (zK _ _)) (ite_z (okR (zK _ _))
      (ite_z (PR.bind_z (H.rank _ _) fun e b l => must_z fun l => rfl) (ite_z (PL.bind_z (H.obj _) fun ns ks l => okR (zN_mk _ _ _ _ _ _ _))
      (ite_z (must_z fun l' => PL.bind_z (pPars_z _) fun ns _ l' => PR.bind_z (H.block _) fun b _ l' => okR ?_) ?_)))))))))
    · rw [zN_mk, zN_kids]
    · cases builtP l with
      | none => rfl
      | some o =>
        exact must_z fun l => PR.bind_z (H.rank _ _) fun e b l => ite_z (must_z fun l => PR.bind_z (H.rank _ _) fun e' b l => must_z fun l => okR (zO _ _ _)) (must_z fun l => okR (zO _ _ _))
  obj l := by
    rw [pObj, pObj]
    simp only [isH_z, tail_z]
    exact iteL_z (okL rfl) (H.field _ _ _)
  field ns ks l := by
    rw [pField, pField]
    refine wordL_z fun s l => mustL_z fun l => PR.bindL_z (H.rank _ _) fun e b l => ?_
    rw [H.objM, List.map_append]; rfl
  objM ns ks l := by
    rw [pObjM, pObjM]
    simp only [isH_z, tail_z, List.length_map]
    exact iteL_z (H.field _ _ _) (mustL_z fun l => okL rfl)
  block l := by
    rw [pBlock, pBlock]
    exact must_z fun l => PL.bind_z (H.stmts _ _) fun _ ks l => must_z fun l => okR (zK _ _)
  stmts ks l := by
    rw [pStmts, pStmts]
    simp only [isH_z, kind_z, List.length_map]
    refine iteL_z (PR.bindL_z (H.stmt _) fun e b l => ?_) (okL rfl)
    rw [H.stmts, List.map_append]; rfl
  ask l := by
    rw [pAsk, pAsk]
    exact must_z fun l => PR.bind_z (H.rank _ _) fun e b l => must_z fun l => rfl
  stmt l := by
    rw [pStmt, pStmt]
    simp only [isH_z, tail_z]
    refine ite_z (PR.bind_z (H.ask _) fun e b l => PR.bind_z (H.block _) fun y b l => ?_) (ite_z (PR.bind_z (H.ask _) fun e b l => PR.bind_z (H.block _) fun y b l => okR (zK _ _)) (PR.bind_z (H.short _) fun e b l => must_z fun l => rfl))
    simp only [isH_z, tail_z]
    refine ite_z (PR.bind_z (H.block _) fun z b l => okR (zK _ _)) (okR ?_)
    rw [zK]; simp [zK]
  short l := by
    rw [pShort, pShort]
    simp only [isH_z, tail_z, pl_z]
    refine ite_z (wordP_z fun s l' => must_z fun l' => PR.bind_z (H.rank _ _) fun e b l' => okR (zN_mk _ _ _ _ _ _ _)) (ite_z (PR.bind_z (H.rank _ _) fun e b l => okR (zK _ _)) (ite_z (PR.bind_z (H.rank _ _) fun e b l => okR (zK _ _))
      (ite_z (PR.bind_z (H.post _) fun e b l => ?_) (PR.bind_z (H.rank _ _) fun e b l => ?_))))
    · simp only [zN_kind, zN_str, zN_kids]
      refine ite_z (okR ?_) rfl
      split
      · rw [zS]
      · rw [zK]
    · simp only [isH_z, tail_z]
      exact ite_z (PR.bind_z (H.rank _ _) fun v b l => okR (become_z _ _)) (okR (zK _ _))
theorem natZ : ∀ f, NatZ f
  | 0 => natZ_0
  | f + 1 => natZ_succ (natZ f)

end Go.Proofs.YtlnllpehifkjhaaDoor
