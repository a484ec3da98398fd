/- A text that is cut ahead of the token at which it is given up is read up to its end. What Parse and Expr tell, as plain functions; and the first fault's place. -/
import Derived.Test.YtijbiedblahmhaaDoorJoint2
import Derived.Test.YtijbiedblahmhaaDoorJoint17
namespace Go.Proofs.YtijbiedblahmhaaDoor
open Go.RowKit

/-- what comes of reading, whatever it is that is read -/
inductive Rs (α : Type) where
  | ok (a : α) (l : List Tok)
  | bad (l : List Tok)
def rsR : PR → Rs (Nd × Bool)
  | .ok t b l => .ok (t, b) l
  | .bad l => .bad l
def rsL : PL → Rs (List ByteArray × List Nd)
  | .ok ns ts l => .ok (ns, ts) l
  | .bad l => .bad l
def Rs.bind {α β : Type} (x : Rs α) (k : α → List Tok → Rs β) : Rs β := match x with | .ok a l => k a l | .bad l => .bad l
/-- nothing was taken -/
def Sta {α : Type} (m : List Tok) (x : Rs α) : Prop := x = .bad m ∨ ∃ a, x = .ok a m
/-- what comes is the same, or the end -/
def Lk (l m : List Tok) : Prop := cur m = cur l ∨ (cur m).kind = 6
structure CE {α : Type} (s : Bool) (F : List Tok → Rs α) : Prop where
  ok : ∀ l a l', F l = .ok a l' → ∃ pre, l = pre ++ l' ∧ (s = true → pre ≠ []) ∧ (∀ t ∈ pre, t.kind ≠ 6) ∧ ∀ m, Lk l' m → F (pre ++ m) = .ok a m
  bad : ∀ l l', F l = .bad l' → ∃ pre, l = pre ++ l' ∧ (∀ t ∈ pre, t.kind ≠ 6) ∧ ∀ m, (cur m).kind = 6 → Sta m (F (pre ++ m))
  stop : ∀ m, (cur m).kind = 6 → Sta m (F m)
theorem lk_pre (p l m : List Tok) (h : Lk l m) : Lk (p ++ l) (p ++ m) := by
  cases p with
  | nil => exact h
  | cons t p => exact .inl rfl
theorem CE.weak {α : Type} {s : Bool} {F : List Tok → Rs α} (h : CE s F) : CE false F :=
  ⟨fun l a l' e => (by obtain ⟨p, h1, _, h3⟩ := h.ok l a l' e; exact ⟨p, h1, (by simp), h3⟩), h.bad, h.stop⟩
theorem CE.leaf {α : Type} (a : α) : CE false (fun l => .ok a l) :=
  ⟨fun l b l' e => (by injection e with e1 e2; subst e1 e2; exact ⟨[], rfl, (by simp), (by simp), fun m _ => rfl⟩), fun l l' e => (by cases e), fun m _ => .inr ⟨a, rfl⟩⟩
theorem CE.stuck {α : Type} (s : Bool) : CE (α := α) s (fun l => .bad l) :=
  ⟨fun l b l' e => (by cases e), fun l l' e => (by injection e with e; subst e; exact ⟨[], rfl, (by simp), fun m _ => .inl rfl⟩), fun m _ => .inl rfl⟩
theorem CE.bind {α β : Type} {s s' : Bool} {F : List Tok → Rs α} {K : α → List Tok → Rs β} (h : CE s F) (k : ∀ a, CE s' (K a)) : CE (s || s') (fun l => (F l).bind K) := by
  refine ⟨fun l b l' e => ?_, fun l l' e => ?_, fun m hm => ?_⟩
  · cases hF : F l with
    | bad l1 => simp only [hF, Rs.bind] at e; cases e
    | ok a l1 =>
      simp only [hF, Rs.bind] at e
      obtain ⟨p1, rfl, h2, h6, h3⟩ := h.ok l a l1 hF
      obtain ⟨p2, rfl, k2, k6, k3⟩ := (k a).ok l1 b l' e
      refine ⟨p1 ++ p2, by simp, ?_, fun t ht => (List.mem_append.1 ht).elim (h6 t) (k6 t), fun m hm => ?_⟩
      · intro hs
        rcases Bool.or_eq_true _ _ ▸ hs with hs | hs
        · have := h2 hs; simp [this]
        · have := k2 hs; simp [this]
      · simp only [List.append_assoc, h3 (p2 ++ m) (lk_pre p2 l' m hm), Rs.bind]
        exact k3 m hm
  · cases hF : F l with
    | bad l1 =>
      simp only [hF, Rs.bind] at e
      injection e with e
      subst e
      obtain ⟨p, h1, h6, h2⟩ := h.bad l l1 hF
      refine ⟨p, h1, h6, fun m hm => ?_⟩
      rcases h2 m hm with e | ⟨a, e⟩
      · simp only [e, Rs.bind]; exact .inl rfl
      · simp only [e, Rs.bind]; exact (k a).stop m hm
    | ok a l1 =>
      simp only [hF, Rs.bind] at e
      obtain ⟨p1, rfl, h2, h6, h3⟩ := h.ok l a l1 hF
      obtain ⟨p2, rfl, k6, k2⟩ := (k a).bad l1 l' e
      refine ⟨p1 ++ p2, by simp, fun t ht => (List.mem_append.1 ht).elim (h6 t) (k6 t), fun m hm => ?_⟩
      simp only [List.append_assoc, h3 (p2 ++ m) (lk_pre p2 l' m (.inr hm)), Rs.bind]
      exact k2 m hm
  · rcases h.stop m hm with e | ⟨a, e⟩
    · simp only [e, Rs.bind]; exact .inl rfl
    · simp only [e, Rs.bind]; exact (k a).stop m hm
/-- one token is taken, if it is one of these; else it is looked further -/
theorem CE.opt {α β : Type} {s : Bool} {F : List Tok → Rs α} (c : Tok → Option β) (A : β → Tok → List Tok → Rs α) (B : List Tok → Rs α) (hc : ∀ t y, c t = some y → t.kind ≠ 6 ∧ t.kind ≠ 0)
    (hF : ∀ l, F l = match c (cur l) with | none => B l | some y => A y (cur l) l.tail) (hA : ∀ y t, CE false (A y t)) (hB : CE s B) : CE s F := by
  have h6 : ∀ t, t.kind = 6 → c t = none := by
    intro t ht
    cases h : c t with
    | none => rfl
    | some y => exact absurd ht (hc t y h).1
  have h0 : ∀ l y, c (cur l) = some y → ∃ t r, l = t :: r ∧ c t = some y := by
    intro l y h
    cases l with
    | nil => exact absurd rfl (hc _ _ h).2
    | cons t r => exact ⟨t, r, rfl, h⟩
  have hn : ∀ p l' m, c (cur (p ++ l')) = Option.none → Lk l' m → c (cur (p ++ m)) = Option.none := by
    intro p l' m h hm
    rcases lk_pre p l' m hm with e | e
    · rw [e]; exact h
    · exact h6 _ e
  refine ⟨fun l b l' e => ?_, fun l l' e => ?_, fun m hm => ?_⟩
  · rw [hF] at e
    cases h : c (cur l) with
    | none =>
      simp only [h] at e
      obtain ⟨p, rfl, h2, k6, h3⟩ := hB.ok l b l' e
      refine ⟨p, rfl, h2, k6, fun m hm => ?_⟩
      rw [hF]
      simp only [hn p l' m h hm]
      exact h3 m hm
    | some y =>
      simp only [h] at e
      obtain ⟨t, r, rfl, hy⟩ := h0 l y h
      obtain ⟨p, h1, h2, k6, h3⟩ := (hA y t).ok r b l' e
      subst h1
      refine ⟨t :: p, rfl, by simp, List.forall_mem_cons.2 ⟨(hc t y hy).1, k6⟩, fun m hm => ?_⟩
      rw [hF]
      show (match c t with | Option.none => _ | some y => A y t (p ++ m)) = _
      simp only [hy]
      exact h3 m hm
  · rw [hF] at e
    cases h : c (cur l) with
    | none =>
      simp only [h] at e
      obtain ⟨p, rfl, k6, h3⟩ := hB.bad l l' e
      refine ⟨p, rfl, k6, fun m hm => ?_⟩
      rw [hF]
      simp only [hn p l' m h (.inr hm)]
      exact h3 m hm
    | some y =>
      simp only [h] at e
      obtain ⟨t, r, rfl, hy⟩ := h0 l y h
      obtain ⟨p, h1, k6, h3⟩ := (hA y t).bad r l' e
      subst h1
      refine ⟨t :: p, rfl, List.forall_mem_cons.2 ⟨(hc t y hy).1, k6⟩, fun m hm => ?_⟩
      rw [hF]
      show Sta m (match c t with | Option.none => _ | some y => A y t (p ++ m))
      simp only [hy]
      exact h3 m hm
  · rw [hF, h6 _ hm]
    exact hB.stop m hm
/-- a further part is read, unless a token of these comes -/
theorem CE.look {α : Type} {F : List Tok → Rs α} (c : Tok → Bool) (a : α) (B : List Tok → Rs α) (hc : ∀ t, t.kind = 6 → c t = false)
    (hF : ∀ l, F l = if c (cur l) = true then B l else .ok a l) (hB : CE true B) : CE false F := by
  refine ⟨fun l b l' e => ?_, fun l l' e => ?_, fun m hm => ?_⟩
  · rw [hF] at e
    by_cases h : c (cur l) = true
    · rw [if_pos h] at e
      obtain ⟨p, rfl, h2, k6, h3⟩ := hB.ok l b l' e
      refine ⟨p, rfl, by simp, k6, fun m hm => ?_⟩
      rw [hF, if_pos, h3 m hm]
      cases p with
      | nil => exact absurd rfl (h2 rfl)
      | cons t p => exact h
    · rw [if_neg h] at e
      injection e with e1 e2
      subst e1 e2
      refine ⟨[], rfl, by simp, by simp, fun m hm => ?_⟩
      rw [hF, if_neg]
      · rfl
      · rcases hm with e | e
        · rw [List.nil_append, e]; exact h
        · rw [List.nil_append, hc _ e]; simp
  · rw [hF] at e
    by_cases h : c (cur l) = true
    · rw [if_pos h] at e
      obtain ⟨p, rfl, k6, h3⟩ := hB.bad l l' e
      refine ⟨p, rfl, k6, fun m hm => ?_⟩
      rw [hF]
      split
      · exact h3 m hm
      · rename_i hne
        cases p with
        | nil => exact .inr ⟨a, rfl⟩
        | cons t p => exact absurd h hne
    · rw [if_neg h] at e
      cases e
  · rw [hF, hc _ hm]
    exact .inr ⟨a, rfl⟩

theorem cut_isT_ne {t : Tok} {x : List UInt8} (h : isT t x = true) : t.kind ≠ 6 ∧ t.kind ≠ 0 := by
  unfold isT at h
  simp at h
  omega
/-- a key or a sign is taken, or it is looked further -/
theorem CE.ite {α : Type} {s : Bool} {R : PR → Rs α} (x : List UInt8) (A : Tok → List Tok → PR) {B : List Tok → PR} (hA : ∀ t, CE false (fun l => R (A t l))) (hB : CE s (fun l => R (B l))) : CE s (fun l => R (if isH l x = true then A (cur l) l.tail else B l)) := by
  refine CE.opt (fun t => if isT t x = true then some () else Option.none) (fun _ t l => R (A t l)) (fun l => R (B l)) (fun t y h => ?_) (fun l => ?_) (fun _ t => hA t) hB
  · split at h
    · rename_i h1; exact cut_isT_ne h1
    · cases h
  · rw [show isT (cur l) x = isH l x from rfl]
    by_cases h : isH l x = true <;> simp [h]
theorem CE.iteL {α : Type} {s : Bool} {R : PL → Rs α} (x : List UInt8) (A : Tok → List Tok → PL) {B : List Tok → PL} (hA : ∀ t, CE false (fun l => R (A t l))) (hB : CE s (fun l => R (B l))) : CE s (fun l => R (if isH l x = true then A (cur l) l.tail else B l)) := by
  refine CE.opt (fun t => if isT t x = true then some () else Option.none) (fun _ t l => R (A t l)) (fun l => R (B l)) (fun t y h => ?_) (fun l => ?_) (fun _ t => hA t) hB
  · split at h
    · rename_i h1; exact cut_isT_ne h1
    · cases h
  · rw [show isT (cur l) x = isH l x from rfl]
    by_cases h : isH l x = true <;> simp [h]
theorem CE.kind {s : Bool} (k : Int) (A : Tok → List Tok → PR) {B : List Tok → PR} (h6 : k ≠ 6) (h0 : k ≠ 0) (hA : ∀ t, CE false (fun l => rsR (A t l))) (hB : CE s (fun l => rsR (B l))) : CE s (fun l => rsR (if (cur l).kind = k then A (cur l) l.tail else B l)) := by
  refine CE.opt (fun t => if t.kind = k then some () else Option.none) (fun _ t l => rsR (A t l)) (fun l => rsR (B l)) (fun t y h => ?_) (fun l => ?_) (fun _ t => hA t) hB
  · split at h
    · rename_i h1; rw [h1]; exact ⟨h6, h0⟩
    · cases h
  · by_cases h : (cur l).kind = k <;> simp [h]
theorem CE.must {s : Bool} {x : List UInt8} {K : List Tok → PR} (h : CE s (fun l => rsR (K l))) : CE true (fun l => rsR (must x l K)) :=
  CE.ite (R := rsR) x (fun _ => K) (fun _ => h.weak) (CE.stuck true)
theorem CE.mustL {s : Bool} {x : List UInt8} {K : List Tok → PL} (h : CE s (fun l => rsL (K l))) : CE true (fun l => rsL (mustL x l K)) :=
  CE.iteL (R := rsL) x (fun _ => K) (fun _ => h.weak) (CE.stuck true)
theorem isW_ne {k : Bool} {t : Tok} (h : (t.kind == 1 || (k && t.kind == 2)) = true) : t.kind ≠ 6 ∧ t.kind ≠ 0 := by
  simp at h
  omega
theorem CE.word {s : Bool} {key : Bool} (K : Tok → ByteArray → List Tok → PR) (h : ∀ t x, CE s (fun l => rsR (K t x l))) : CE true (fun l => rsR (wordP key l (K (cur l)))) := by
  refine CE.opt (fun t => if (t.kind == 1 || (key && t.kind == 2)) = true then some () else Option.none) (fun _ t l => rsR (K t t.text l)) (fun l => .bad l) (fun t y h => ?_) (fun l => ?_) (fun _ t => (h t t.text).weak) (CE.stuck true)
  · split at h
    · rename_i h1; exact isW_ne h1
    · cases h
  · rw [show ((cur l).kind == 1 || (key && (cur l).kind == 2)) = isW key l from rfl]
    unfold wordP
    by_cases h : isW key l = true <;> simp [h, rsR]
theorem CE.wordL {s : Bool} {key : Bool} {K : ByteArray → List Tok → PL} (h : ∀ x, CE s (fun l => rsL (K x l))) : CE true (fun l => rsL (wordL key l K)) := by
  refine CE.opt (fun t => if (t.kind == 1 || (key && t.kind == 2)) = true then some () else Option.none) (fun _ t l => rsL (K t.text l)) (fun l => .bad l) (fun t y h => ?_) (fun l => ?_) (fun _ t => (h t.text).weak) (CE.stuck true)
  · split at h
    · rename_i h1; exact isW_ne h1
    · cases h
  · rw [show ((cur l).kind == 1 || (key && (cur l).kind == 2)) = isW key l from rfl]
    unfold Go.Proofs.YtijbiedblahmhaaDoor.wordL
    by_cases h : isW key l = true <;> simp [h, rsL]
theorem CE.rr {s s' : Bool} {F : List Tok → PR} {K : Nd → Bool → List Tok → PR} (h : CE s (fun l => rsR (F l))) (k : ∀ t b, CE s' (fun l => rsR (K t b l))) : CE (s || s') (fun l => rsR ((F l).bind K)) := by
  rw [show (fun l => rsR ((F l).bind K)) = fun l => (rsR (F l)).bind (fun a l => rsR (K a.1 a.2 l)) from funext fun l => by cases F l <;> rfl]
  exact h.bind fun a => k a.1 a.2
theorem CE.rl {s s' : Bool} {F : List Tok → PR} {K : Nd → Bool → List Tok → PL} (h : CE s (fun l => rsR (F l))) (k : ∀ t b, CE s' (fun l => rsL (K t b l))) : CE (s || s') (fun l => rsL ((F l).bindL K)) := by
  rw [show (fun l => rsL ((F l).bindL K)) = fun l => (rsR (F l)).bind (fun a l => rsL (K a.1 a.2 l)) from funext fun l => by cases F l <;> rfl]
  exact h.bind fun a => k a.1 a.2
theorem CE.lr {s s' : Bool} {F : List Tok → PL} {K : List ByteArray → List Nd → List Tok → PR} (h : CE s (fun l => rsL (F l))) (k : ∀ t b, CE s' (fun l => rsR (K t b l))) : CE (s || s') (fun l => rsR ((F l).bind K)) := by
  rw [show (fun l => rsR ((F l).bind K)) = fun l => (rsL (F l)).bind (fun a l => rsR (K a.1 a.2 l)) from funext fun l => by cases F l <;> rfl]
  exact h.bind fun a => k a.1 a.2
theorem CE.okR (t : Nd) (b : Bool) : CE false (fun l => rsR (.ok t b l)) := CE.leaf (t, b)
theorem CE.okL (ns : List ByteArray) (ts : List Nd) : CE false (fun l => rsL (.ok ns ts l)) := CE.leaf (ns, ts)
theorem CE.badR (s : Bool) : CE s (fun l => rsR (.bad l)) := CE.stuck s
theorem CE.badL (s : Bool) : CE s (fun l => rsL (.bad l)) := CE.stuck s
def sgnF : List (List UInt8 × Int × Int) → Tok → Option (Int × Int)
  | [], _ => none
  | (x, k, o) :: r, t => if isT t x then some (k, o) else sgnF r t
theorem sgnF_eq (l : List Tok) : ∀ s, signF s l = sgnF s (cur l)
  | [] => rfl
  | (x, k, o) :: r => by rw [signF, sgnF, sgnF_eq l r]; rfl
theorem sgnF_kind {t : Tok} {y : Int × Int} : ∀ {s}, sgnF s t = some y → t.kind ≠ 6 ∧ t.kind ≠ 0
  | [], h => by cases h
  | (x, k, o) :: r, h => by
    rw [sgnF] at h
    split at h
    · rename_i h1; exact cut_isT_ne h1
    · exact sgnF_kind h
def builtG : List Int → Tok → Option Int
  | [], _ => none
  | o :: r, t => if isT t (builtT o).1 then some o else builtG r t
theorem builtG_eq (l : List Tok) : ∀ s, builtF s l = builtG s (cur l)
  | [] => rfl
  | o :: r => by rw [builtF, builtG, builtG_eq l r]; rfl
theorem builtG_kind {t : Tok} {y : Int} : ∀ {s}, builtG s t = some y → t.kind ≠ 6 ∧ t.kind ≠ 0
  | [], h => by cases h
  | o :: r, h => by
    rw [builtG] at h
    split at h
    · rename_i h1; exact cut_isT_ne h1
    · exact builtG_kind h

theorem cut_par : ∀ (f : Nat) (ns : List ByteArray), CE false (fun l => rsL (pPar f ns l))
  | 0, ns => by simp only [pPar]; exact CE.badL _
  | f + 1, ns => by
    simp only [pPar]
    refine (CE.wordL (s := false) fun x => ?_).weak
    by_cases hf : f ≠ 0
    · simp only [hf, ne_eq, not_false_eq_true, true_and]
      exact (CE.iteL (R := rsL) [44] (fun _ l => pPar f (ns ++ [x]) l) (fun _ => cut_par f _) (CE.mustL (CE.okL _ _))).weak
    · simp only [hf, false_and, if_false]
      exact (CE.mustL (CE.okL _ _)).weak
theorem cut_pars : CE false (fun l => rsL (pPars l)) := by
  unfold pPars
  exact CE.iteL (R := rsL) [41] (fun _ l => .ok [] [] l) (fun _ => CE.okL _ _) (cut_par 6 [])

structure CutZ (f : Nat) : Prop where
  rank : ∀ r, CE true (fun l => rsR (pRank f r l))
  more : ∀ r e b, CE false (fun l => rsR (pMore f r e b l))
  post : CE true (fun l => rsR (pPost f l))
  tail : ∀ e b, CE false (fun l => rsR (pTail f e b l))
  args : ∀ ks, CE false (fun l => rsL (pArgs f ks l))
  argsM : ∀ ks, CE false (fun l => rsL (pArgsM f ks l))
  atom : CE true (fun l => rsR (pAtom f l))
  obj : CE false (fun l => rsL (pObj f l))
  field : ∀ ns ks, CE false (fun l => rsL (pField f ns ks l))
  objM : ∀ ns ks, CE false (fun l => rsL (pObjM f ns ks l))
  block : CE false (fun l => rsR (pBlock f l))
  stmts : ∀ ks, CE false (fun l => rsL (pStmts f ks l))
  ask : CE false (fun l => rsR (pAsk f l))
  stmt : CE true (fun l => rsR (pStmt f l))
  short : CE true (fun l => rsR (pShort f l))
theorem cut_0 : CutZ 0 := by
  constructor
  all_goals
    intros
    simp only [pRank, pMore, pPost, pTail, pArgs, pArgsM, pAtom, pObj, pField, pObjM, pBlock, pStmts, pAsk, pStmt, pShort]
    first | exact CE.badR _ | exact CE.badL _
theorem cut_succ {f : Nat} (H : CutZ f) : CutZ (f + 1) where
  rank r := by
    simp only [pRank]
    by_cases h7 : 7 ≤ r
    · simp only [h7, if_true]
      refine CE.ite (R := rsR) [45] (fun _ l => (pRank f 7 l).bind fun e _ l => .ok (ndO 9 1 [e]) false l) (fun _ => (CE.rr (H.rank 7) fun _ _ => CE.okR _ _).weak) ?_
      exact CE.ite (R := rsR) [33] (fun _ l => (pRank f 7 l).bind fun e _ l => .ok (ndO 9 2 [e]) false l) (fun _ => (CE.rr (H.rank 7) fun _ _ => CE.okR _ _).weak) H.post
    · simp only [h7, if_false]
      exact CE.rr (H.rank (r + 1)) fun e b => H.more r e b
  more r e b := by
    simp only [pMore]
    refine CE.opt (sgnF (sgR r)) (fun y _ l => rsR ((pRank f (r + 1) l).bind fun e' _ l => pMore f r (ndO y.1 y.2 [e, e']) false l)) (fun l => rsR (.ok e b l)) (fun t y h => sgnF_kind h) (fun l => ?_) (fun y _ => (CE.rr (H.rank (r + 1)) fun _ _ => H.more _ _ _).weak) (CE.okR _ _)
    rw [show signP r l = sgnF (sgR r) (cur l) from sgnF_eq l _]
    cases sgnF (sgR r) (cur l) with
    | none => rfl
    | some y => rfl
  post := by
    simp only [pPost]
    exact CE.rr H.atom fun e b => H.tail e b
  tail e b := by
    simp only [pTail]
    refine CE.ite (R := rsR) [46] (fun _ l => wordP true l fun s l => if isH l [40] then (pArgs f [e] l.tail).bind fun _ ks l => pTail f (ndS 16 s ks) false l else pTail f (ndS 13 s [e]) true l) (fun _ => ?_) ?_
    · refine (CE.word (s := false) (fun _ s l => if isH l [40] then (pArgs f [e] l.tail).bind fun _ ks l => pTail f (ndS 16 s ks) false l else pTail f (ndS 13 s [e]) true l) fun _ s => ?_).weak
      exact CE.ite (R := rsR) [40] (fun _ l => (pArgs f [e] l).bind fun _ ks l => pTail f (ndS 16 s ks) false l) (fun _ => CE.lr (H.args _) fun _ _ => H.tail _ _) (H.tail _ _)
    refine CE.ite (R := rsR) [91] (fun _ l => (pRank f 1 l).bind fun i _ l => must [93] l fun l => pTail f (ndK 14 [e, i]) true l) (fun _ => (CE.rr (H.rank 1) fun _ _ => CE.must (H.tail _ _)).weak) ?_
    exact CE.ite (R := rsR) [40] (fun _ l => (pArgs f [e] l).bind fun _ ks l => pTail f (ndK 15 ks) false l) (fun _ => CE.lr (H.args _) fun _ _ => H.tail _ _) (CE.okR _ _)
  args ks := by
    simp only [pArgs]
    exact CE.iteL (R := rsL) [41] (fun _ l => .ok [] ks l) (fun _ => CE.okL _ _) (CE.rl (H.rank 1) fun _ _ => H.argsM _).weak
  argsM ks := by
    simp only [pArgsM]
    by_cases hk : ks.length < 7
    · simp only [hk, true_and]
      exact CE.iteL (R := rsL) [44] (fun _ l => (pRank f 1 l).bindL fun e _ l => pArgsM f (ks ++ [e]) l) (fun _ => (CE.rl (H.rank 1) fun _ _ => H.argsM _).weak) (CE.mustL (CE.okL _ _)).weak
    · simp only [hk, false_and, if_false]
      exact (CE.mustL (CE.okL _ _)).weak
  atom := by
    simp only [pAtom]
    refine CE.kind 3 (fun t l => .ok (.mk 3 0 t.num bz [] [] 0) false l) (by decide) (by decide) (fun _ => CE.okR _ _) ?_
    refine CE.kind 4 (fun t l => .ok (ndS 4 t.text []) false l) (by decide) (by decide) (fun _ => CE.okR _ _) ?_
    refine CE.kind 1 (fun t l => .ok (.mk 5 0 0 t.text [] [] t.pl) true l) (by decide) (by decide) (fun _ => CE.okR _ _) ?_
    refine CE.ite (R := rsR) [110, 117, 108, 108] (fun _ l => .ok (ndK 1 []) false l) (fun _ => CE.okR _ _) ?_
    refine CE.ite (R := rsR) [116, 114, 117, 101] (fun _ l => .ok (.mk 2 0 1 bz [] [] 0) false l) (fun _ => CE.okR _ _) ?_
    refine CE.ite (R := rsR) [102, 97, 108, 115, 101] (fun _ l => .ok (ndK 2 []) false l) (fun _ => CE.okR _ _) ?_
    refine CE.ite (R := rsR) [116, 104, 105, 115] (fun _ l => .ok (ndK 6 []) false l) (fun _ => CE.okR _ _) ?_
    refine CE.ite (R := rsR) [40] (fun _ l => (pRank f 1 l).bind fun e _ l => must [41] l fun l => .ok e false l) (fun _ => (CE.rr (H.rank 1) fun _ _ => CE.must (CE.okR _ _)).weak) ?_
    refine CE.ite (R := rsR) [123] (fun _ l => (pObj f l).bind fun ns ks l => .ok (.mk 7 0 0 bz ns ks 0) false l) (fun _ => (CE.lr H.obj fun _ _ => CE.okR _ _).weak) ?_
    refine CE.ite (R := rsR) [102, 110] (fun t l => must [40] l fun l' => (pPars l').bind fun ns _ l' => (pBlock f l').bind fun b _ l' => .ok (.mk 8 0 0 bz ns b.kids t.pl) false l') (fun _ => (CE.must (CE.lr cut_pars fun _ _ => CE.rr H.block fun _ _ => CE.okR _ _)).weak) ?_
    refine CE.opt (builtG [1, 2, 3, 4, 5, 6, 7]) (fun o _ l => rsR (must [40] l fun l => (pRank f 1 l).bind fun e _ l =>
          if (builtT o).2 = 2 then must [44] l fun l => (pRank f 1 l).bind fun e' _ l => must [41] l fun l => .ok (ndO 17 o [e, e']) false l
          else must [41] l fun l => .ok (ndO 17 o [e]) false l)) (fun l => rsR (.bad l)) (fun t y h => builtG_kind h) (fun l => ?_) (fun o _ => ?_) (CE.badR _)
    · rw [show builtP l = builtG [1, 2, 3, 4, 5, 6, 7] (cur l) from builtG_eq l _]
      cases builtG [1, 2, 3, 4, 5, 6, 7] (cur l) with
      | none => rfl
      | some y => rfl
    · refine (CE.must (s := true) (CE.rr (H.rank 1) (s' := true) fun e _ => ?_)).weak
      by_cases h2 : (builtT o).2 = 2
      · simp only [h2, if_true]
        exact CE.must (CE.rr (H.rank 1) fun _ _ => CE.must (CE.okR _ _))
      · simp only [h2, if_false]
        exact CE.must (CE.okR _ _)
  obj := by
    simp only [pObj]
    exact CE.iteL (R := rsL) [125] (fun _ l => .ok [] [] l) (fun _ => CE.okL _ _) (H.field _ _)
  field ns ks := by
    simp only [pField]
    exact (CE.wordL fun _ => CE.mustL (CE.rl (H.rank 1) fun _ _ => H.objM _ _)).weak
  objM ns ks := by
    simp only [pObjM]
    by_cases hk : ks.length < 40
    · simp only [hk, true_and]
      exact CE.iteL (R := rsL) [44] (fun _ l => pField f ns ks l) (fun _ => H.field _ _) (CE.mustL (CE.okL _ _)).weak
    · simp only [hk, false_and, if_false]
      exact (CE.mustL (CE.okL _ _)).weak
  block := by
    simp only [pBlock]
    exact (CE.must (CE.lr (H.stmts _) fun _ _ => CE.must (CE.okR _ _))).weak
  stmts ks := by
    simp only [pStmts]
    by_cases hk : ks.length < 40
    · simp only [hk, true_and]
      refine CE.look (fun t => isT t [125] == false && t.kind != 6) ([], ks) (fun l => rsL ((pStmt f l).bindL fun e _ l => pStmts f (ks ++ [e]) l)) (fun t h => by simp [h]) (fun l => ?_) (CE.rl H.stmt fun _ _ => H.stmts _)
      show _ = if (isH l [125] == false && (cur l).kind != 6) = true then _ else _
      by_cases h1 : isH l [125] = false <;> by_cases h2 : (cur l).kind = 6 <;> simp [h1, h2, rsL]
    · simp only [hk, false_and, if_false]
      exact CE.okL _ _
  ask := by
    simp only [pAsk]
    exact (CE.must (CE.rr (H.rank 1) fun _ _ => CE.must (CE.okR _ _))).weak
  stmt := by
    simp only [pStmt]
    refine CE.ite (R := rsR) [105, 102] (fun _ l => (pAsk f l).bind fun e _ l => (pBlock f l).bind fun y _ l =>
      if isH l [101, 108, 115, 101] then (pBlock f l.tail).bind fun z _ l => .ok (ndK 28 [e, y, z]) false l else .ok (ndK 28 [e, y, ndK 29 []]) false l) (fun _ => ?_) ?_
    · refine CE.rr H.ask fun e _ => CE.rr H.block (s' := false) fun y _ => ?_
      exact CE.ite (R := rsR) [101, 108, 115, 101] (fun _ l => (pBlock f l).bind fun z _ l => .ok (ndK 28 [e, y, z]) false l) (fun _ => CE.rr H.block fun _ _ => CE.okR _ _) (CE.okR _ _)
    refine CE.ite (R := rsR) [119, 104, 105, 108, 101] (fun _ l => (pAsk f l).bind fun e _ l => (pBlock f l).bind fun y _ l => .ok (ndK 30 [e, y]) false l) (fun _ => CE.rr H.ask fun _ _ => CE.rr H.block fun _ _ => CE.okR _ _) ?_
    exact CE.rr H.short fun _ _ => CE.must (CE.okR _ _)
  short := by
    simp only [pShort]
    refine CE.ite (R := rsR) [108, 101, 116] (fun _ l => wordP false l fun s l' => must [61] l' fun l' => (pRank f 1 l').bind fun e _ l' => .ok (.mk 21 0 0 s [] [e] (cur l).pl) false l') (fun _ => ?_) ?_
    · exact (CE.word (fun t s l' => must [61] l' fun l' => (pRank f 1 l').bind fun e _ l' => .ok (.mk 21 0 0 s [] [e] t.pl) false l') fun _ _ => CE.must (CE.rr (H.rank 1) fun _ _ => CE.okR _ _)).weak
    refine CE.ite (R := rsR) [112, 114, 105, 110, 116] (fun _ l => (pRank f 1 l).bind fun e _ l => .ok (ndK 27 [e]) false l) (fun _ => (CE.rr (H.rank 1) fun _ _ => CE.okR _ _).weak) ?_
    refine CE.ite (R := rsR) [114, 101, 116, 117, 114, 110] (fun _ l => (pRank f 1 l).bind fun e _ l => .ok (ndK 31 [e]) false l) (fun _ => (CE.rr (H.rank 1) fun _ _ => CE.okR _ _).weak) ?_
    refine CE.ite (R := rsR) [100, 101, 108, 101, 116, 101] (fun _ l => (pPost f l).bind fun e b l =>
      if b = true ∧ e.kind ≠ 5 then .ok (if e.kind = 13 then ndS 25 e.str e.kids else ndK 26 e.kids) false l else .bad l) (fun _ => (CE.rr H.post (s' := false) fun e b => ?_).weak) ?_
    · by_cases h : b = true ∧ e.kind ≠ 5
      · simp only [h, ne_eq, not_false_eq_true, and_self, if_true]
        exact CE.okR _ _
      · simp only [h, if_false]
        exact CE.badR _
    refine CE.rr (H.rank 1) (s' := false) fun e b => ?_
    cases b with
    | false => simp only [Bool.false_eq_true, false_and, if_false]; exact CE.okR _ _
    | true =>
      simp only [true_and]
      exact CE.ite (R := rsR) [61] (fun _ l => (pRank f 1 l).bind fun v _ l => .ok (becomeN e v) false l) (fun _ => (CE.rr (H.rank 1) fun _ _ => CE.okR _ _).weak) (CE.okR _ _)
theorem cut : ∀ f, CutZ f
  | 0 => cut_0
  | f + 1 => cut_succ (cut f)

/-- P7.1: what is ahead of the token that can't stand, cut off there, is read up to its end -/
theorem cut_whole (f : Nat) (l l' : List Tok) (h : pWhole f true l = .bad l') : ∃ pre, l = pre ++ l' ∧ (∀ t ∈ pre, t.kind ≠ 6) ∧ ∀ m, (cur m).kind = 6 → pWhole f true (pre ++ m) = .bad m ∨ ∃ t, pWhole f true (pre ++ m) = .ok t false m := by
  have hc := (cut f).stmts []
  unfold pWhole at h ⊢
  simp only [if_true] at h ⊢
  cases hs : pStmts f [] l with
  | bad l1 =>
    simp only [hs, PL.bind, PR.bind] at h
    injection h with h
    subst h
    obtain ⟨pre, h1, h6, h2⟩ := hc.bad l l1 (by simp only [hs]; rfl)
    refine ⟨pre, h1, h6, fun m hm => ?_⟩
    have h3 := h2 m hm
    cases hq : pStmts f [] (pre ++ m) with
    | bad l2 =>
      simp only [hq, rsL, Sta] at h3
      rcases h3 with e | ⟨_, e⟩
      · injection e with e
        subst e
        exact .inl rfl
      · cases e
    | ok ns ts l2 =>
      simp only [hq, rsL, Sta] at h3
      rcases h3 with e | ⟨_, e⟩
      · cases e
      · injection e with e1 e2
        subst e2
        right
        exact ⟨ndK 29 ts, by simp [PL.bind, PR.bind, hm]⟩
  | ok ns ts l1 =>
    simp only [hs, PL.bind, PR.bind] at h
    split at h
    · cases h
    · injection h with h
      subst h
      obtain ⟨pre, h1, _, h6, h2⟩ := hc.ok l (ns, ts) l1 (by simp only [hs]; rfl)
      refine ⟨pre, h1, h6, fun m hm => ?_⟩
      have h3 := h2 m (.inr hm)
      cases hq : pStmts f [] (pre ++ m) with
      | bad l2 => simp only [hq, rsL] at h3; cases h3
      | ok ns2 ts2 l2 =>
        simp only [hq, rsL] at h3
        injection h3 with e1 e2
        subst e2
        right
        exact ⟨ndK 29 ts2, by simp [PL.bind, PR.bind, hm]⟩

end Go.Proofs.YtijbiedblahmhaaDoor

namespace Go.Proofs.YtijbiedblahmhaaDoor
open Go.RowKit

/-- no node at all -/
def ndZ : Nd := .mk 0 0 0 bz [] [] 0
/-- what a text is read as: the node, the place and the error -/
def parseO (f : Nat) (prog : Bool) (s : ByteArray) : Nd × Int × Int :=
  if (tokOut s).2.2 ≠ 0 then (ndZ, (tokOut s).2.1, (tokOut s).2.2)
  else match pWhole f prog (tokOut s).1 with
    | .bad l => (ndZ, (cur l).pl, 12)
    | .ok t _ _ => if 12 < highN t then (ndZ, 0, 13) else (t, 0, 0)
/-- with no error the place is 0 -/
theorem parse_ok {f : Nat} {prog : Bool} {s : ByteArray} (h : (parseO f prog s).2.2 = 0) : (parseO f prog s).2.1 = 0 := by
  unfold parseO at h ⊢
  split
  · rename_i he
    rw [if_pos he] at h
    exact absurd h he
  · rename_i he
    rw [if_neg he] at h
    split
    · rename_i hl
      simp [hl] at h
    · split <;> rfl
/-- P7.1: what is ahead of the first token that can't stand is read up to its end -/
theorem first_parse {f : Nat} {s : ByteArray} (h : (parseO f true s).2.2 = 12) : ∃ a : Nat, (parseO f true s).2.1 = a ∧ a ≤ s.size ∧
    ((parseO f true (cutB s a)).2.2 = 0 ∨ (parseO f true (cutB s a)).2.2 = 13 ∨ ((parseO f true (cutB s a)).2.2 = 12 ∧ (parseO f true (cutB s a)).2.1 = a)) := by
  unfold parseO at h
  split at h
  · exact absurd h (out_errs s)
  · rename_i he
    have he0 : (tokOut s).2.2 = 0 := by simpa using he
    have hout : tokOut s = ((tokOut s).1, (tokOut s).2.1, 0) := by rw [← he0]
    cases hp : pWhole f true (tokOut s).1 with
    | ok t b l =>
      simp only [hp] at h
      split at h <;> cases h
    | bad l =>
      obtain ⟨pre, h1, h6, h2⟩ := cut_whole f _ _ hp
      obtain ⟨⟨u, u1, u2⟩, hpl⟩ := out_end hout
      cases l with
      | nil =>
        rw [List.append_nil] at h1
        rw [h1] at u1
        exact absurd u2 (h6 u u1)
      | cons t r =>
        have hmem : t ∈ (tokOut s).1 := by rw [h1]; simp
        obtain ⟨a, ha, hle⟩ := hpl t hmem
        have hat : (tokOut s).1[pre.length]? = some t := by rw [h1]; simp
        obtain ⟨_, hc⟩ := out_cut hout hat ha
        have htk : (tokOut s).1.take pre.length = pre := by rw [h1]; simp
        rw [htk] at hc
        refine ⟨a, ?_, hle, ?_⟩
        · unfold parseO
          rw [if_neg he]
          simp only [hp]
          exact ha
        · unfold parseO
          rw [hc]
          rw [if_neg (by simp)]
          simp only
          rcases h2 [⟨6, ⟨#[]⟩, 0, a⟩] rfl with e | ⟨x, e⟩
          · rw [e]
            exact .inr (.inr ⟨rfl, rfl⟩)
          · rw [e]
            simp only
            split
            · exact .inr (.inl rfl)
            · exact .inl rfl

end Go.Proofs.YtijbiedblahmhaaDoor
