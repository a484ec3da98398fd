/- A right tree comes back from its tokens: expressions. -/
import Derived.Test.YtlnllpehifkjhaaDoorPsFine
import Derived.Test.YtlnllpehifkjhaaDoorPsNat
namespace Go.Proofs.YtlnllpehifkjhaaDoor
open Go.RowKit

/-- with enough fuel it is so -/
def Ev {α : Type} (g : Nat → α) (res : α) : Prop := ∃ f0, ∀ f, f0 ≤ f → g f = res
theorem Ev.const {α : Type} (a : α) : Ev (fun _ => a) a := ⟨0, fun _ _ => rfl⟩
theorem Ev.up {α : Type} {g h : Nat → α} {res : α} (e : ∀ f, g (f + 1) = h f) (H : Ev h res) : Ev g res := by
  obtain ⟨f0, h0⟩ := H
  refine ⟨f0 + 1, fun f hf => ?_⟩
  obtain ⟨f', rfl⟩ : ∃ f', f = f' + 1 := ⟨f - 1, by omega⟩
  rw [e]; exact h0 f' (by omega)
theorem Ev.of {α : Type} {g h : Nat → α} {res : α} (e : ∀ f, g f = h f) (H : Ev h res) : Ev g res := by
  obtain ⟨f0, h0⟩ := H
  exact ⟨f0, fun f hf => (e f).trans (h0 f hf)⟩
theorem Ev.bind {x : Nat → PR} {k : Nat → Nd → Bool → List Tok → PR} {t : Nd} {b : Bool} {l : List Tok} {res : PR} (hx : Ev x (.ok t b l)) (hk : Ev (fun f => k f t b l) res) : Ev (fun f => (x f).bind (k f)) res := by
  obtain ⟨f1, h1⟩ := hx
  obtain ⟨f2, h2⟩ := hk
  refine ⟨max f1 f2, fun f hf => ?_⟩
  show (x f).bind (k f) = res
  rw [h1 f (by omega), PR.bind_ok]; exact h2 f (by omega)
theorem Ev.bindL {x : Nat → PR} {k : Nat → Nd → Bool → List Tok → PL} {t : Nd} {b : Bool} {l : List Tok} {res : PL} (hx : Ev x (.ok t b l)) (hk : Ev (fun f => k f t b l) res) : Ev (fun f => (x f).bindL (k f)) res := by
  obtain ⟨f1, h1⟩ := hx
  obtain ⟨f2, h2⟩ := hk
  refine ⟨max f1 f2, fun f hf => ?_⟩
  show (x f).bindL (k f) = res
  rw [h1 f (by omega), PR.bindL_ok]; exact h2 f (by omega)
theorem Ev.lbind {x : Nat → PL} {k : Nat → List ByteArray → List Nd → List Tok → PR} {t : List ByteArray} {b : List Nd} {l : List Tok} {res : PR} (hx : Ev x (.ok t b l)) (hk : Ev (fun f => k f t b l) res) : Ev (fun f => (x f).bind (k f)) res := by
  obtain ⟨f1, h1⟩ := hx
  obtain ⟨f2, h2⟩ := hk
  refine ⟨max f1 f2, fun f hf => ?_⟩
  show (x f).bind (k f) = res
  rw [h1 f (by omega), PL.bind_ok]; exact h2 f (by omega)

/-! tokens that come -/
theorem isT_sg (x y : List UInt8) : isT (sgT x) y = (x == y) := by simp [isT, sgT]
theorem isT_kw (x y : List UInt8) : isT (kwT x) y = (x == y) := by simp [isT, kwT]
theorem isT_nm (s : ByteArray) (y : List UInt8) : isT (nmT s) y = false := by simp [isT, nmT]
theorem isH_cons (t : Tok) (l : List Tok) (x : List UInt8) : isH (t :: l) x = isT t x := rfl
theorem isH_sg (x y : List UInt8) (l : List Tok) : isH (sgT x :: l) y = (x == y) := isT_sg x y
theorem isH_kw (x y : List UInt8) (l : List Tok) : isH (kwT x :: l) y = (x == y) := isT_kw x y
theorem isH_nm (s : ByteArray) (y : List UInt8) (l : List Tok) : isH (nmT s :: l) y = false := isT_nm s y
theorem isT_one {t : Tok} {x y : List UInt8} (h : isT t x = true) (hn : (x == y) = false) : isT t y = false := by
  unfold isT at h ⊢
  rw [Bool.and_eq_true, beq_iff_eq] at h
  rw [h.2, hn, Bool.and_false]
theorem isT_pp (s : ByteArray) (y : List UInt8) (hy : keyB y = false) : isT (ppT s) y = false := by
  unfold isT ppT
  cases hk : keyB s.data.toList with
  | false => simp
  | true =>
    have : (s.data.toList == y) = false := by
      rw [beq_eq_false_iff_ne]; intro e; rw [e, hy] at hk; cases hk
    rw [this, Bool.and_false]
theorem must_sg (x : List UInt8) (l : List Tok) (k : List Tok → PR) : must x (sgT x :: l) k = k l := by unfold must; rw [isH_sg, if_pos (by simp)]; rfl
theorem mustL_sg (x : List UInt8) (l : List Tok) (k : List Tok → PL) : mustL x (sgT x :: l) k = k l := by unfold mustL; rw [isH_sg, if_pos (by simp)]; rfl
theorem wordP_pp (s : ByteArray) (l : List Tok) (k : ByteArray → List Tok → PR) : wordP true (ppT s :: l) k = k s l := by
  unfold wordP
  rw [if_pos (by unfold isW cur ppT; cases keyB s.data.toList <;> rfl)]; rfl
theorem wordL_pp (s : ByteArray) (l : List Tok) (k : ByteArray → List Tok → PL) : wordL true (ppT s :: l) k = k s l := by
  unfold wordL
  rw [if_pos (by unfold isW cur ppT; cases keyB s.data.toList <;> rfl)]; rfl
theorem wordP_nm (b : Bool) (s : ByteArray) (l : List Tok) (k : ByteArray → List Tok → PR) : wordP b (nmT s :: l) k = k s l := by
  unfold wordP
  rw [if_pos (by unfold isW; rfl)]; rfl
theorem wordL_nm (b : Bool) (s : ByteArray) (l : List Tok) (k : ByteArray → List Tok → PL) : wordL b (nmT s :: l) k = k s l := by
  unfold wordL
  rw [if_pos (by unfold isW; rfl)]; rfl
theorem tk_sg (x : List UInt8) (r : List Pc) : toksC (sg x :: r) = sgT x :: toksC r := rfl
theorem tk_kw (x : List UInt8) (r : List Pc) : toksC (kw x :: r) = kwT x :: toksC r := rfl
theorem tk_nm (s : ByteArray) (r : List Pc) : toksC (nm s :: r) = nmT s :: toksC r := rfl
theorem tk_pp (s : ByteArray) (r : List Pc) : toksC (pp s :: r) = ppT s :: toksC r := rfl
theorem tk_bl (r : List Pc) : toksC (.bl :: r) = toksC r := rfl
theorem tk_nil : toksC [] = [] := rfl

/-! with which tokens an expression begins -/
def firstL : List (List UInt8) := [[40], [123], [45], [33], [110, 117, 108, 108], [116, 114, 117, 101], [102, 97, 108, 115, 101], [116, 104, 105, 115], [102, 110],
  [99, 111, 117, 110, 116], [107, 101, 121], [104, 97, 115], [112, 114, 111, 116, 111], [115, 101, 116, 112, 114, 111, 116, 111], [108, 101, 110], [115, 116, 114]]
def firstT (t : Tok) : Bool := t.kind == 1 || t.kind == 3 || t.kind == 4 || firstL.any (isT t)
theorem first_not {t : Tok} (h : firstT t = true) {x : List UInt8} (hx : firstL.contains x = false) : isT t x = false := by
  cases hq : isT t x with
  | false => rfl
  | true =>
    exfalso
    unfold firstT at h
    have hk : t.kind = 2 ∨ t.kind = 5 := by
      unfold isT at hq
      rw [Bool.and_eq_true, Bool.or_eq_true, beq_iff_eq, beq_iff_eq] at hq
      exact hq.1
    have h1 : (t.kind == 1 || t.kind == 3 || t.kind == 4) = false := by
      rcases hk with h | h <;> rw [h] <;> rfl
    rw [h1, Bool.false_or, List.any_eq_true] at h
    obtain ⟨y, hy, hty⟩ := h
    have hne : (x == y) = false := by
      rw [beq_eq_false_iff_ne]; intro e; subst e
      rw [List.contains_iff_mem.2 hy] at hx; cases hx
    rw [isT_one hq hne] at hty; cases hty
theorem first_kind {t : Tok} (h : firstT t = true) : t.kind ≠ 6 := by
  intro e
  unfold firstT at h
  have h0 : ∀ x, isT t x = false := by intro x; unfold isT; rw [e]; rfl
  have h2 : firstL.any (isT t) = false := by rw [List.any_eq_false]; intro x _; rw [h0]; decide
  rw [h2, e] at h; cases h
def Firsts (ts : List Tok) : Prop := ∃ t r, ts = t :: r ∧ firstT t = true
theorem Firsts.app {a b : List Tok} (h : Firsts a) : Firsts (a ++ b) := by
  obtain ⟨t, r, e, h1⟩ := h
  exact ⟨t, r ++ b, by rw [e]; rfl, h1⟩
theorem Firsts.not {l : List Tok} (h : Firsts l) {x : List UInt8} (hx : firstL.contains x = false) : isH l x = false := by
  obtain ⟨t, r, rfl, h1⟩ := h
  exact first_not h1 hx
theorem Firsts.kind {l : List Tok} (h : Firsts l) : (cur l).kind ≠ 6 := by
  obtain ⟨t, r, rfl, h1⟩ := h
  exact first_kind h1

/-! units: tokens of which a node comes, whatever stands behind them -/
def noPost (l : List Tok) : Prop := isH l [46] = false ∧ isH l [91] = false ∧ isH l [40] = false
def Stop (r : Nat) (l : List Tok) : Prop := noPost l ∧ ∀ r', r ≤ r' → signP r' l = none
theorem Stop.up {r r' : Nat} {l : List Tok} (h : Stop r l) (hr : r ≤ r') : Stop r' l := ⟨h.1, fun q hq => h.2 q (by omega)⟩
def Unit8 (ts : List Tok) (e : Nd) (b nc : Bool) : Prop :=
  Firsts ts ∧ isH ts [45] = false ∧ isH ts [33] = false ∧ ∀ rest res, (nc = true → isH rest [40] = false) → Ev (fun f => pTail f e b rest) res → Ev (fun f => pPost f (ts ++ rest)) res
def UnitAt (r : Nat) (ts : List Tok) (e : Nd) (b : Bool) : Prop :=
  Firsts ts ∧ if r ≤ 6 then ∀ rest res, Stop (r + 1) rest → Ev (fun f => pMore f r e b rest) res → Ev (fun f => pRank f r (ts ++ rest)) res
    else ∀ rest, noPost rest → Ev (fun f => pRank f 7 (ts ++ rest)) (.ok e b rest)
theorem more_stop {r : Nat} {e : Nd} {b : Bool} {l : List Tok} (h : signP r l = none) : Ev (fun f => pMore f r e b l) (.ok e b l) :=
  .up (h := fun _ => .ok e b l) (fun f => by rw [pMore, h]) (.const _)
theorem tail_stop {e : Nd} {b : Bool} {l : List Tok} (h : noPost l) : Ev (fun f => pTail f e b l) (.ok e b l) :=
  .up (h := fun _ => .ok e b l) (fun f => by rw [pTail, h.1, h.2.1, h.2.2]; rfl) (.const _)
theorem isH_app {ts rest : List Tok} (h : Firsts ts) (x : List UInt8) : isH (ts ++ rest) x = isH ts x := by
  obtain ⟨t, r, rfl, _⟩ := h; rfl
theorem Unit8.at7 {ts : List Tok} {e : Nd} {b nc : Bool} (h : Unit8 ts e b nc) : UnitAt 7 ts e b := by
  obtain ⟨h1, h2, h3, h4⟩ := h
  refine ⟨h1, ?_⟩
  rw [if_neg (by omega)]
  intro rest hr
  refine .up (h := fun f => pPost f (ts ++ rest)) (fun f => ?_) (h4 rest _ (fun _ => hr.2.2) (tail_stop hr))
  rw [pRank, if_pos (by omega), isH_app h1, isH_app h1, h2, h3]; rfl
/-- read at a rank, where nothing of that rank goes on -/
theorem UnitAt.whole {r : Nat} {ts : List Tok} {e : Nd} {b : Bool} (h : UnitAt r ts e b) (hr7 : r ≤ 7) {rest : List Tok} (hr : Stop r rest) : Ev (fun f => pRank f r (ts ++ rest)) (.ok e b rest) := by
  obtain ⟨h1, h2⟩ := h
  by_cases h6 : r ≤ 6
  · rw [if_pos h6] at h2
    exact h2 rest _ (hr.up (by omega)) (more_stop (hr.2 r (Nat.le_refl _)))
  · rw [if_neg h6] at h2
    have : r = 7 := by omega
    subst this
    exact h2 rest hr.1
theorem UnitAt.down1 {r : Nat} {ts : List Tok} {e : Nd} {b : Bool} (h : UnitAt (r + 1) ts e b) (hr : r ≤ 6) : UnitAt r ts e b := by
  refine ⟨h.1, ?_⟩
  rw [if_pos hr]
  intro rest res hs hm
  have hw := h.whole (by omega) hs
  refine .up (h := fun f => (pRank f (r + 1) (ts ++ rest)).bind fun e b l => pMore f r e b l) (fun f => by rw [pRank, if_neg (by omega)]) ?_
  exact .bind hw hm
theorem UnitAt.down {ts : List Tok} {e : Nd} {b : Bool} : ∀ (n r : Nat), r + n ≤ 7 → UnitAt (r + n) ts e b → UnitAt r ts e b
  | 0, _, _, h => h
  | n + 1, r, hr, h => (UnitAt.down n (r + 1) (by omega) (by rw [show r + 1 + n = r + (n + 1) by omega]; exact h)).down1 (by omega)
theorem UnitAt.to {q r : Nat} {ts : List Tok} {e : Nd} {b : Bool} (h : UnitAt q ts e b) (hq : q ≤ 7) (hr : r ≤ q) : UnitAt r ts e b :=
  .down (q - r) r (by omega) (by rw [show r + (q - r) = q by omega]; exact h)
/-- what stands behind an expression in brackets and lists -/
theorem stop_close {c : UInt8} {l : List Tok} (h : c = 41 ∨ c = 93 ∨ c = 44 ∨ c = 59 ∨ c = 125) : Stop 1 (sgT [c] :: l) := by
  have h0 : ∀ x : List UInt8, x ≠ [c] → isH (sgT [c] :: l) x = false := by
    intro x hx; rw [isH_sg, beq_eq_false_iff_ne]; exact fun e => hx e.symm
  refine ⟨?_, fun r' _ => ?_⟩
  · refine ⟨h0 _ ?_, h0 _ ?_, h0 _ ?_⟩ <;> (rcases h with rfl | rfl | rfl | rfl | rfl <;> decide)
  · unfold signP sgR
    split <;> simp only [signF] <;> rcases h with rfl | rfl | rfl | rfl | rfl <;> simp [isH_sg]

/-- an expression in brackets -/
theorem unit_bracket {ts : List Tok} {e : Nd} {b : Bool} (h : UnitAt 1 ts e b) : Unit8 (sgT [40] :: (ts ++ [sgT [41]])) e false false := by
  refine ⟨⟨_, _, rfl, by decide⟩, by rw [isH_sg]; rfl, by rw [isH_sg]; rfl, fun rest res _ ht => ?_⟩
  have hw := h.whole (by omega) (rest := sgT [41] :: rest) (stop_close (.inl rfl))
  have ha : Ev (fun f => pAtom f (sgT [40] :: (ts ++ [sgT [41]]) ++ rest)) (.ok e false rest) := by
    refine .up (h := fun f => (pRank f 1 (ts ++ (sgT [41] :: rest))).bind fun e _ l => must [41] l fun l => .ok e false l) (fun f => ?_) (.bind hw ?_)
    · rw [pAtom]
      simp [cur, sgT, isH, isT]
    · exact .of (fun f => must_sg _ _ _) (.const _)
  exact .up (h := fun f => (pAtom f (sgT [40] :: (ts ++ [sgT [41]]) ++ rest)).bind fun e b l => pTail f e b l) (fun f => by rw [pPost]) (.bind ha ht)

/-- an atom of one token -/
theorem unit_atom {t : Tok} {e : Nd} {b nc : Bool} (hf : firstT t = true) (h45 : isT t [45] = false) (h33 : isT t [33] = false) (h : ∀ f rest, pAtom (f + 1) (t :: rest) = .ok e b rest) : Unit8 [t] e b nc := by
  refine ⟨⟨_, _, rfl, hf⟩, h45, h33, fun rest res _ ht => ?_⟩
  refine .up (h := fun f => (pAtom f (t :: rest)).bind fun e b l => pTail f e b l) (fun f => by rw [List.cons_append, List.nil_append, pPost]) ?_
  exact .bind (.up (h := fun _ => .ok e b rest) (fun f => h f rest) (.const _)) ht

def bareE (x : Nd) : Bool := decide (x.kind = 5 ∨ x.kind = 13 ∨ x.kind = 14)
def rankE (x : Nd) : Nat := (rankT x.kind x.op).toNat
/-- what is known of an expression -/
def BackE (x : Nd) : Prop :=
  UnitAt (min 7 (rankE x)) (toksC (pcN x).e) (zN x) (bareE x) ∧ (8 ≤ rankE x → Unit8 (toksC (pcN x).e) (zN x) (bareE x) (decide (x.kind = 13)))
theorem back_of8 {x : Nd} (h : Unit8 (toksC (pcN x).e) (zN x) (bareE x) (decide (x.kind = 13))) (hr : 7 ≤ rankE x) : BackE x :=
  ⟨by rw [Nat.min_eq_left hr]; exact h.at7, fun _ => h⟩
theorem back_at {x : Nd} (hr : rankE x ≤ 7) (h : UnitAt (rankE x) (toksC (pcN x).e) (zN x) (bareE x)) : BackE x :=
  ⟨by rw [Nat.min_eq_right hr]; exact h, fun h8 => by omega⟩
theorem rank_pos {x : Nd} (h : Rt 1 x) : 1 ≤ rankE x := by
  cases h <;> first | (simp only [rankE, Nd.kind, Nd.op]; decide) | (rename_i ho _ _; simp only [rankE, Nd.kind, Nd.op, rankT]; grind) | skip
theorem pcN_rank (x : Nd) : (pcN x).rank = rankT x.kind x.op := by obtain ⟨k, o, n, s, ns, ks, p⟩ := x; rw [pcN_mk]; rfl
theorem pcN_kind (x : Nd) : (pcN x).kind = x.kind := by obtain ⟨k, o, n, s, ns, ks, p⟩ := x; rw [pcN_mk]; rfl
theorem BackE.one {x : Nd} (h : BackE x) (hp : 1 ≤ rankE x) : UnitAt 1 (toksC (pcN x).e) (zN x) (bareE x) := h.1.to (by omega) (by omega)
/-- in brackets where it asks for them -/
theorem back_tight {x : Nd} (h : BackE x) (hp : 1 ≤ rankE x) {r : Nat} (hr : r ≤ 7) : ∃ b, UnitAt r (toksC (tightC (pcN x) r)) (zN x) b := by
  unfold tightC
  rw [pcN_rank]
  by_cases hq : (r : Int) ≤ rankT x.kind x.op
  · rw [if_pos hq]
    exact ⟨_, h.1.to (by omega) (by unfold rankE; omega)⟩
  · rw [if_neg hq, tk_sg, toksC_append]
    exact ⟨_, (unit_bracket (h.one hp)).at7.to (by omega) hr⟩
theorem back_tight8 {x : Nd} (h : BackE x) (hp : 1 ≤ rankE x) (r : Int) (hr : 8 ≤ r) : ∃ b, Unit8 (toksC (tightC (pcN x) r)) (zN x) b (decide (x.kind = 13 ∧ r ≤ rankT x.kind x.op)) := by
  unfold tightC
  rw [pcN_rank]
  by_cases hq : r ≤ rankT x.kind x.op
  · rw [if_pos hq]
    have h8 := h.2 (by unfold rankE; omega)
    refine ⟨bareE x, ?_⟩
    rw [show decide (x.kind = 13 ∧ r ≤ rankT x.kind x.op) = decide (x.kind = 13) by simp [hq]]
    exact h8
  · rw [if_neg hq, tk_sg, toksC_append]
    refine ⟨false, ?_⟩
    rw [show decide (x.kind = 13 ∧ r ≤ rankT x.kind x.op) = false by simp [hq]]
    exact unit_bracket (h.one hp)

/-! expressions, kind by kind -/
theorem sign_back {o : Int} (h : 1 ≤ o ∧ o ≤ 11) (l : List Tok) : ∃ r : Nat, rankT 10 o = r ∧ 3 ≤ r ∧ r ≤ 6 ∧ signP r (sgT (signT o) :: l) = some (10, o) ∧ Stop (r + 1) (sgT (signT o) :: l) := by
  obtain rfl | rfl | rfl | rfl | rfl | rfl | rfl | rfl | rfl | rfl | rfl : o = 1 ∨ o = 2 ∨ o = 3 ∨ o = 4 ∨ o = 5 ∨ o = 6 ∨ o = 7 ∨ o = 8 ∨ o = 9 ∨ o = 10 ∨ o = 11 := by omega
  case' inl => refine ⟨5, ?_⟩
  case' inr.inl => refine ⟨5, ?_⟩
  case' inr.inr.inl => refine ⟨6, ?_⟩
  case' inr.inr.inr.inl => refine ⟨6, ?_⟩
  case' inr.inr.inr.inr.inl => refine ⟨6, ?_⟩
  case' inr.inr.inr.inr.inr.inl => refine ⟨4, ?_⟩
  case' inr.inr.inr.inr.inr.inr.inl => refine ⟨4, ?_⟩
  case' inr.inr.inr.inr.inr.inr.inr.inl => refine ⟨4, ?_⟩
  case' inr.inr.inr.inr.inr.inr.inr.inr.inl => refine ⟨4, ?_⟩
  case' inr.inr.inr.inr.inr.inr.inr.inr.inr.inl => refine ⟨3, ?_⟩
  case' inr.inr.inr.inr.inr.inr.inr.inr.inr.inr => refine ⟨3, ?_⟩
  all_goals
    refine ⟨rfl, by omega, by omega, rfl, ⟨rfl, rfl, rfl⟩, fun r' hr' => ?_⟩
    unfold signP sgR
    split <;> first | omega | rfl
theorem and_back (l : List Tok) : signP 2 (sgT [38, 38] :: l) = some (11, 0) ∧ Stop 3 (sgT [38, 38] :: l) := by
  refine ⟨rfl, ⟨rfl, rfl, rfl⟩, fun r' hr' => ?_⟩
  unfold signP sgR
  split <;> first | omega | rfl
theorem or_back (l : List Tok) : signP 1 (sgT [124, 124] :: l) = some (12, 0) ∧ Stop 2 (sgT [124, 124] :: l) := by
  refine ⟨rfl, ⟨rfl, rfl, rfl⟩, fun r' hr' => ?_⟩
  unfold signP sgR
  split <;> first | omega | rfl
theorem unit_between {r : Nat} (hr : r ≤ 6) {k o : Int} {g : List UInt8} (hg : ∀ l, signP r (sgT g :: l) = some (k, o) ∧ Stop (r + 1) (sgT g :: l)) {tx ty : List Tok} {ex ey : Nd} {bx b2 : Bool} (hx : UnitAt r tx ex bx) (hy : UnitAt (r + 1) ty ey b2) :
    UnitAt r (tx ++ (sgT g :: ty)) (ndO k o [ex, ey]) false := by
  refine ⟨hx.1.app, ?_⟩
  rw [if_pos hr]
  intro rest res hs hm
  have h1 := hx.2
  rw [if_pos hr] at h1
  have hw := hy.whole (by omega) hs
  have h2 := h1 (sgT g :: (ty ++ rest)) res (hg _).2 (.up (h := fun f => (pRank f (r + 1) (ty ++ rest)).bind fun e' _ l => pMore f r (ndO k o [ex, e']) false l) (fun f => by rw [pMore, (hg _).1]; rfl) (.bind hw hm))
  rw [List.append_assoc]
  exact h2
theorem back_between {x y : Nd} {r : Nat} (hr1 : 1 ≤ r) (hr : r ≤ 6) {k o : Int} {g : List UInt8} (hg : ∀ l, signP r (sgT g :: l) = some (k, o) ∧ Stop (r + 1) (sgT g :: l)) (hx : BackE x) (hy : BackE y) (px : 1 ≤ rankE x) (py : 1 ≤ rankE y) :
    UnitAt r (toksC (betweenC r g (pcN x) (pcN y))) (ndO k o [zN x, zN y]) false := by
  obtain ⟨bx, ux⟩ := back_tight hx px (r := r) (by omega)
  obtain ⟨b2, uy⟩ := back_tight hy py (r := r + 1) (by omega)
  have e : toksC (betweenC r g (pcN x) (pcN y)) = toksC (tightC (pcN x) r) ++ (sgT g :: toksC (tightC (pcN y) ((r + 1 : Nat) : Int))) := by
    unfold betweenC; rw [toksC_append, tk_bl, tk_sg, tk_bl]; rfl
  rw [e]
  exact unit_between hr hg ux uy

theorem unit_get {ts : List Tok} {e : Nd} {b nc : Bool} (h : Unit8 ts e b nc) (s : ByteArray) : Unit8 (ts ++ [sgT [46], ppT s]) (ndS 13 s [e]) true true := by
  obtain ⟨h1, h2, h3, h4⟩ := h
  refine ⟨h1.app, by rw [isH_app h1]; exact h2, by rw [isH_app h1]; exact h3, fun rest res hn ht => ?_⟩
  rw [List.append_assoc]
  refine h4 _ res (fun _ => by rw [List.cons_append, isH_sg]; rfl) ?_
  refine .up (h := fun f => pTail f (ndS 13 s [e]) true rest) (fun f => ?_) ht
  rw [List.cons_append, pTail, isH_sg, if_pos (by decide)]
  show wordP true (ppT s :: rest) _ = _
  rw [wordP_pp, hn rfl]; rfl
theorem unit_index {ts ti : List Tok} {e i : Nd} {b nc bi nd : Bool} (h : Unit8 ts e b nc) (hi : UnitAt 1 ti i bi) : Unit8 (ts ++ (sgT [91] :: (ti ++ [sgT [93]]))) (ndK 14 [e, i]) true nd := by
  obtain ⟨h1, h2, h3, h4⟩ := h
  refine ⟨h1.app, by rw [isH_app h1]; exact h2, by rw [isH_app h1]; exact h3, fun rest res hn ht => ?_⟩
  rw [List.append_assoc]
  refine h4 _ res (fun _ => by rw [List.cons_append, isH_sg]; rfl) ?_
  have hw := hi.whole (by omega) (rest := sgT [93] :: rest) (stop_close (.inr (.inl rfl)))
  refine .up (h := fun f => (pRank f 1 (ti ++ (sgT [93] :: rest))).bind fun i _ l => must [93] l fun l => pTail f (ndK 14 [e, i]) true l) (fun f => ?_) (.bind hw (.of (fun f => must_sg _ _ _) ht))
  rw [List.cons_append, pTail, isH_sg, isH_sg, if_neg (by decide), if_pos (by decide)]
  rw [List.append_assoc]; rfl
/-- a list of expressions, and the bracket behind it -/
theorem args_more {rest : List Tok} : ∀ (ks : List Nd) (acc : List Nd), (∀ x ∈ ks, UnitAt 1 (toksC (pcN x).e) (zN x) (bareE x)) → acc.length + ks.length ≤ 7 →
    Ev (fun f => pArgsM f acc (toksC (commasC (ks.map pcN)) ++ (sgT [41] :: rest))) (.ok [] (acc ++ ks.map zN) rest)
  | [], acc, _, _ => by
    refine .up (h := fun _ => .ok [] acc rest) (fun f => ?_) (by simpa using Ev.const (PL.ok [] acc rest))
    rw [pArgsM]
    have : isH (toksC (commasC (([] : List Nd).map pcN)) ++ (sgT [41] :: rest)) [44] = false := rfl
    rw [this, if_neg (by simp)]
    exact mustL_sg _ _ _
  | x :: ks, acc, h, hl => by
    have hx := h x (by simp)
    have ih := args_more (rest := rest) ks (acc ++ [zN x]) (fun y hy => h y (by simp [hy])) (by simp at hl ⊢; omega)
    have e : toksC (commasC ((x :: ks).map pcN)) ++ (sgT [41] :: rest) = sgT [44] :: (toksC (pcN x).e ++ (toksC (commasC (ks.map pcN)) ++ (sgT [41] :: rest))) := by
      simp only [commasC, List.map_cons, List.flatMap_cons, toksC_append, List.cons_append, tk_sg, tk_bl, List.append_assoc]
    have hst : Stop 1 (toksC (commasC (ks.map pcN)) ++ (sgT [41] :: rest)) := by
      cases ks with
      | nil => exact stop_close (.inl rfl)
      | cons y r =>
        have e2 : ∃ q, toksC (commasC ((y :: r).map pcN)) ++ (sgT [41] :: rest) = sgT [44] :: q := by
          simp only [commasC, List.map_cons, List.flatMap_cons, List.cons_append, tk_sg]; exact ⟨_, rfl⟩
        obtain ⟨q, e2⟩ := e2
        rw [e2]; exact stop_close (.inr (.inr (.inl rfl)))
    rw [e]
    have hw := hx.whole (by omega) hst
    refine .up (h := fun f => (pRank f 1 (toksC (pcN x).e ++ (toksC (commasC (ks.map pcN)) ++ (sgT [41] :: rest)))).bindL fun e _ l => pArgsM f (acc ++ [e]) l) (fun f => ?_) (.bindL hw (by simpa using ih))
    rw [pArgsM, isH_sg, if_pos ⟨by simp at hl; omega, by decide⟩]; rfl
theorem args_all {a : List Nd} {rest : List Tok} (ks : List Nd) (h : ∀ x ∈ ks, UnitAt 1 (toksC (pcN x).e) (zN x) (bareE x)) (hl : a.length + ks.length ≤ 7) :
    Ev (fun f => pArgs f a (toksC (listC (ks.map pcN)) ++ (sgT [41] :: rest))) (.ok [] (a ++ ks.map zN) rest) := by
  cases ks with
  | nil =>
    refine .up (h := fun _ => .ok [] a rest) (fun f => ?_) (by simpa using Ev.const (PL.ok [] a rest))
    rw [pArgs]
    have : isH (toksC (listC (([] : List Nd).map pcN)) ++ (sgT [41] :: rest)) [41] = true := rfl
    rw [this, if_pos rfl]; rfl
  | cons x ks =>
    have hx := h x (by simp)
    have ih := args_more (rest := rest) ks (a ++ [zN x]) (fun y hy => h y (by simp [hy])) (by simp at hl ⊢; omega)
    have e : toksC (listC ((x :: ks).map pcN)) ++ (sgT [41] :: rest) = toksC (pcN x).e ++ (toksC (commasC (ks.map pcN)) ++ (sgT [41] :: rest)) := by
      simp only [listC, List.map_cons, toksC_append, List.append_assoc]
    have hst : Stop 1 (toksC (commasC (ks.map pcN)) ++ (sgT [41] :: rest)) := by
      cases ks with
      | nil => exact stop_close (.inl rfl)
      | cons y r =>
        have e2 : ∃ q, toksC (commasC ((y :: r).map pcN)) ++ (sgT [41] :: rest) = sgT [44] :: q := by
          simp only [commasC, List.map_cons, List.flatMap_cons, List.cons_append, tk_sg]; exact ⟨_, rfl⟩
        obtain ⟨q, e2⟩ := e2
        rw [e2]; exact stop_close (.inr (.inr (.inl rfl)))
    rw [e]
    have hw := hx.whole (by omega) hst
    refine .up (h := fun f => (pRank f 1 (toksC (pcN x).e ++ (toksC (commasC (ks.map pcN)) ++ (sgT [41] :: rest)))).bindL fun e _ l => pArgsM f (a ++ [e]) l) (fun f => ?_) (.bindL hw (by simpa using ih))
    rw [pArgs, isH_app hx.1, hx.1.not (by decide)]; rfl
theorem unit_call {ts : List Tok} {e : Nd} {b : Bool} (h : Unit8 ts e b false) {ks : List Nd} (hk : ∀ x ∈ ks, UnitAt 1 (toksC (pcN x).e) (zN x) (bareE x)) (hl : ks.length ≤ 6) : Unit8 (ts ++ toksC (argsC (ks.map pcN))) (ndK 15 (e :: ks.map zN)) false false := by
  obtain ⟨h1, h2, h3, h4⟩ := h
  refine ⟨h1.app, by rw [isH_app h1]; exact h2, by rw [isH_app h1]; exact h3, fun rest res hn ht => ?_⟩
  rw [List.append_assoc]
  refine h4 _ res (fun h => by cases h) ?_
  have ha := args_all (a := [e]) (rest := rest) ks hk (by simp; omega)
  refine .up (h := fun f => (pArgs f [e] (toksC (listC (ks.map pcN)) ++ (sgT [41] :: rest))).bind fun _ ks l => pTail f (ndK 15 ks) false l) (fun f => ?_) (.lbind ha ht)
  unfold argsC
  rw [tk_sg, toksC_append, List.cons_append, pTail, isH_sg, isH_sg, isH_sg, if_neg (by decide), if_neg (by decide), if_pos (by decide), List.append_assoc]; rfl
theorem unit_meth {ts : List Tok} {e : Nd} {b nc : Bool} (h : Unit8 ts e b nc) (s : ByteArray) {ks : List Nd} (hk : ∀ x ∈ ks, UnitAt 1 (toksC (pcN x).e) (zN x) (bareE x)) (hl : ks.length ≤ 6) :
    Unit8 (ts ++ (sgT [46] :: ppT s :: toksC (argsC (ks.map pcN)))) (ndS 16 s (e :: ks.map zN)) false false := by
  obtain ⟨h1, h2, h3, h4⟩ := h
  refine ⟨h1.app, by rw [isH_app h1]; exact h2, by rw [isH_app h1]; exact h3, fun rest res hn ht => ?_⟩
  rw [List.append_assoc]
  refine h4 _ res (fun _ => by rw [List.cons_append, isH_sg]; rfl) ?_
  have ha := args_all (a := [e]) (rest := rest) ks hk (by simp; omega)
  refine .up (h := fun f => (pArgs f [e] (toksC (listC (ks.map pcN)) ++ (sgT [41] :: rest))).bind fun _ ks l => pTail f (ndS 16 s ks) false l) (fun f => ?_) (.lbind ha ht)
  unfold argsC
  rw [tk_sg, toksC_append, List.cons_append, pTail, isH_sg, if_pos (by decide)]
  show wordP true (ppT s :: (sgT [40] :: (toksC (listC (ks.map pcN)) ++ [sgT [41]]) ++ rest)) _ = _
  rw [wordP_pp, List.cons_append, isH_sg, if_pos (by decide), List.append_assoc]; rfl

end Go.Proofs.YtlnllpehifkjhaaDoor
