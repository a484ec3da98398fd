/- A right tree comes back from its tokens: atoms, statements, programs. -/
import Derived.Test.YtlnllpehifkjhaaDoorPsBack
namespace Go.Proofs.YtlnllpehifkjhaaDoor
open Go.RowKit

theorem post_atom {ts : List Tok} {e : Nd} {b nc : Bool} (hf : Firsts ts) (h45 : isH ts [45] = false) (h33 : isH ts [33] = false) (h : ∀ rest, Ev (fun f => pAtom f (ts ++ rest)) (.ok e b rest)) : Unit8 ts e b nc :=
  ⟨hf, h45, h33, fun rest res _ ht => .up (h := fun f => (pAtom f (ts ++ rest)).bind fun e b l => pTail f e b l) (fun f => by rw [pPost]) (.bind (h rest) ht)⟩

/-! objects -/
theorem stop_fields (ns : List ByteArray) (ks : List Nd) (rest : List Tok) : Stop 1 (toksC (fieldsC ns (ks.map pcN)) ++ (sgT [125] :: rest)) := by
  cases ns with
  | nil => cases ks <;> exact stop_close (by simp)
  | cons s ns =>
    cases ks with
    | nil => exact stop_close (by simp)
    | cons x ks =>
      have e : ∃ q, toksC (fieldsC (s :: ns) ((x :: ks).map pcN)) ++ (sgT [125] :: rest) = sgT [44] :: q := by
        simp only [fieldsC, List.map_cons, List.cons_append, tk_sg]; exact ⟨_, rfl⟩
      obtain ⟨q, e⟩ := e
      rw [e]; exact stop_close (by simp)
theorem fields_more {rest : List Tok} : ∀ (ns : List ByteArray) (ks : List Nd) (an : List ByteArray) (ak : List Nd), ks.length = ns.length → (∀ x ∈ ks, UnitAt 1 (toksC (pcN x).e) (zN x) (bareE x)) → ak.length + ks.length ≤ 40 →
    Ev (fun f => pObjM f an ak (toksC (fieldsC ns (ks.map pcN)) ++ (sgT [125] :: rest))) (.ok (an ++ ns) (ak ++ ks.map zN) rest)
  | [], [], an, ak, _, _, _ => by
    refine .up (h := fun _ => .ok an ak rest) (fun f => ?_) (by simpa using Ev.const (PL.ok an ak rest))
    rw [pObjM]
    have : isH (toksC (fieldsC [] (([] : List Nd).map pcN)) ++ (sgT [125] :: rest)) [44] = false := rfl
    rw [this, if_neg (by simp)]
    exact mustL_sg _ _ _
  | s :: ns, x :: ks, an, ak, hn, h, hl => by
    have hx := h x (by simp)
    have ih := fields_more (rest := rest) ns ks (an ++ [s]) (ak ++ [zN x]) (by simpa using hn) (fun y hy => h y (by simp [hy])) (by simp at hl ⊢; omega)
    have e : toksC (fieldsC (s :: ns) ((x :: ks).map pcN)) ++ (sgT [125] :: rest) = sgT [44] :: ppT s :: sgT [58] :: (toksC (pcN x).e ++ (toksC (fieldsC ns (ks.map pcN)) ++ (sgT [125] :: rest))) := by
      simp only [fieldsC, fieldC, List.map_cons, toksC_append, List.cons_append, tk_sg, tk_pp, tk_bl, List.append_assoc]
    rw [e]
    have hw := hx.whole (by omega) (stop_fields ns ks rest)
    refine .up (h := fun f => pField f an ak (ppT s :: sgT [58] :: (toksC (pcN x).e ++ (toksC (fieldsC ns (ks.map pcN)) ++ (sgT [125] :: rest))))) (fun f => ?_) ?_
    · rw [pObjM, isH_sg, if_pos ⟨by simp at hl; omega, by decide⟩]; rfl
    · refine .up (h := fun f => (pRank f 1 (toksC (pcN x).e ++ (toksC (fieldsC ns (ks.map pcN)) ++ (sgT [125] :: rest)))).bindL fun e _ l => pObjM f (an ++ [s]) (ak ++ [e]) l) (fun f => ?_) (.bindL hw (by simpa using ih))
      rw [pField, wordL_pp, mustL_sg]
  | [], x :: ks, _, _, hn, _, _ => by simp at hn
  | s :: ns, [], _, _, hn, _, _ => by simp at hn
theorem back_obj {ns : List ByteArray} {ks : List Nd} (hn : ks.length = ns.length) (h40 : ns.length ≤ 40) (hk : ∀ x ∈ ks, UnitAt 1 (toksC (pcN x).e) (zN x) (bareE x)) : Unit8 (toksC (objC ns (ks.map pcN))) (.mk 7 0 0 bz ns (ks.map zN) 0) false false := by
  have h1 : ∃ q, toksC (objC ns (ks.map pcN)) = sgT [123] :: q := by
    cases ns with
    | nil => cases ks <;> exact ⟨_, rfl⟩
    | cons s ns => cases ks <;> exact ⟨_, rfl⟩
  obtain ⟨q, hq⟩ := h1
  refine post_atom ⟨_, _, hq, by decide⟩ (by rw [hq, isH_sg]; rfl) (by rw [hq, isH_sg]; rfl) fun rest => ?_
  have key : Ev (fun f => pObj f (q ++ rest)) (.ok ns (ks.map zN) rest) := by
    cases ns with
    | nil =>
      have hk0 : ks = [] := List.length_eq_zero_iff.1 (by simpa using hn)
      subst hk0
      have hq' : q = [sgT [125]] := by have : toksC (objC [] (([] : List Nd).map pcN)) = [sgT [123], sgT [125]] := rfl; rw [this] at hq; injection hq with _ h; exact h.symm
      subst hq'
      refine .up (h := fun _ => .ok [] [] rest) (fun f => ?_) (.const _)
      rw [pObj, List.cons_append, isH_sg, if_pos (by decide)]; rfl
    | cons s ns =>
      cases ks with
      | nil => simp at hn
      | cons x ks =>
        have hx := hk x (by simp)
        have hq' : q = ppT s :: sgT [58] :: (toksC (pcN x).e ++ (toksC (fieldsC ns (ks.map pcN)) ++ [sgT [125]])) := by
          have : toksC (objC (s :: ns) ((x :: ks).map pcN)) = sgT [123] :: ppT s :: sgT [58] :: (toksC (pcN x).e ++ (toksC (fieldsC ns (ks.map pcN)) ++ [sgT [125]])) := by
            simp only [objC, fieldC, List.map_cons, toksC_append, List.cons_append, tk_sg, tk_pp, tk_bl, tk_nil, List.append_assoc]
          rw [this] at hq; injection hq with _ h; exact h.symm
        have ih := fields_more (rest := rest) ns ks [s] [zN x] (by simpa using hn) (fun y hy => hk y (by simp [hy])) (by simp at hn h40 ⊢; omega)
        have hw := hx.whole (by omega) (stop_fields ns ks rest)
        have e : q ++ rest = ppT s :: sgT [58] :: (toksC (pcN x).e ++ (toksC (fieldsC ns (ks.map pcN)) ++ (sgT [125] :: rest))) := by rw [hq']; simp
        rw [e]
        refine .up (h := fun f => pField f [] [] (ppT s :: sgT [58] :: (toksC (pcN x).e ++ (toksC (fieldsC ns (ks.map pcN)) ++ (sgT [125] :: rest))))) (fun f => ?_) ?_
        · rw [pObj, isH_cons, isT_pp s _ (by decide)]; rfl
        · refine .up (h := fun f => (pRank f 1 (toksC (pcN x).e ++ (toksC (fieldsC ns (ks.map pcN)) ++ (sgT [125] :: rest)))).bindL fun e _ l => pObjM f ([] ++ [s]) ([] ++ [e]) l) (fun f => ?_) (.bindL hw (by simpa using ih))
          rw [pField, wordL_pp, mustL_sg]
  rw [hq]
  refine .up (h := fun f => (pObj f (q ++ rest)).bind fun ns ks l => .ok (.mk 7 0 0 bz ns ks 0) false l) (fun f => ?_) (.lbind key (.const _))
  rw [List.cons_append, pAtom]
  simp [cur, sgT, isH, isT]

/-! functions -/
theorem pars_more {rest : List Tok} : ∀ (ns : List ByteArray) (s : ByteArray) (an : List ByteArray) (f : Nat), ns.length + 1 ≤ f → pPar f an (nmT s :: (toksC (namesC ns) ++ (sgT [41] :: rest))) = .ok (an ++ s :: ns) [] rest
  | [], s, an, f, hf => by
    obtain ⟨f, rfl⟩ : ∃ f', f = f' + 1 := ⟨f - 1, by simp at hf; omega⟩
    rw [pPar, wordL_nm]
    have : isH (toksC (namesC []) ++ (sgT [41] :: rest)) [44] = false := rfl
    rw [this, if_neg (by simp)]
    exact mustL_sg _ _ _
  | n :: ns, s, an, f, hf => by
    obtain ⟨f, rfl⟩ : ∃ f', f = f' + 1 := ⟨f - 1, by simp at hf; omega⟩
    have e : toksC (namesC (n :: ns)) ++ (sgT [41] :: rest) = sgT [44] :: nmT n :: (toksC (namesC ns) ++ (sgT [41] :: rest)) := by
      simp only [namesC, List.flatMap_cons, List.cons_append, tk_sg, tk_bl, tk_nm, List.nil_append]
    rw [pPar, wordL_nm, e, isH_sg, if_pos ⟨by simp at hf; omega, by decide⟩]
    show pPar f (an ++ [s]) (nmT n :: (toksC (namesC ns) ++ (sgT [41] :: rest))) = _
    rw [pars_more ns n (an ++ [s]) f (by simp at hf; omega)]
    simp
theorem pars_all {ns : List ByteArray} (h : ns.length ≤ 6) (rest : List Tok) : pPars (toksC (joinC ns) ++ (sgT [41] :: rest)) = .ok ns [] rest := by
  unfold pPars
  cases ns with
  | nil =>
    have : isH (toksC (joinC []) ++ (sgT [41] :: rest)) [41] = true := rfl
    rw [this, if_pos rfl]; rfl
  | cons s ns =>
    have e : toksC (joinC (s :: ns)) ++ (sgT [41] :: rest) = nmT s :: (toksC (namesC ns) ++ (sgT [41] :: rest)) := rfl
    rw [e, isH_nm, if_neg (by simp), pars_more ns s [] 6 (by simp at h; omega)]; rfl

/-! statements -/
/-- with which tokens a statement begins -/
def firstS (t : Tok) : Bool := firstT t || [[108, 101, 116], [112, 114, 105, 110, 116], [114, 101, 116, 117, 114, 110], [100, 101, 108, 101, 116, 101], [105, 102], [119, 104, 105, 108, 101]].any (isT t)
def FirstsS (ts : List Tok) : Prop := ∃ t r, ts = t :: r ∧ firstS t = true
theorem FirstsS.ofE {ts : List Tok} (h : Firsts ts) : FirstsS ts := by
  obtain ⟨t, r, e, h1⟩ := h
  exact ⟨t, r, e, by unfold firstS; rw [h1]; rfl⟩
theorem FirstsS.app {a b : List Tok} (h : FirstsS a) : FirstsS (a ++ b) := by
  obtain ⟨t, r, e, h1⟩ := h
  exact ⟨t, r ++ b, by rw [e]; rfl, h1⟩
theorem FirstsS.not {l : List Tok} (h : FirstsS l) : isH l [125] = false ∧ isH l [101, 108, 115, 101] = false ∧ (cur l).kind ≠ 6 := by
  obtain ⟨t, r, rfl, h1⟩ := h
  unfold firstS at h1
  rw [Bool.or_eq_true] at h1
  rcases h1 with h1 | h1
  · exact ⟨first_not h1 (by decide), first_not h1 (by decide), first_kind h1⟩
  · rw [List.any_eq_true] at h1
    obtain ⟨x, hx, ht⟩ := h1
    refine ⟨isT_one ht ?_, isT_one ht ?_, ?_⟩
    · simp only [List.mem_cons, List.not_mem_nil, or_false] at hx
      rcases hx with rfl | rfl | rfl | rfl | rfl | rfl <;> rfl
    · simp only [List.mem_cons, List.not_mem_nil, or_false] at hx
      rcases hx with rfl | rfl | rfl | rfl | rfl | rfl <;> rfl
    · intro e
      have e' : t.kind = 6 := e
      unfold isT at ht; rw [e'] at ht; cases ht
def BackS (x : Nd) : Prop := FirstsS (toksC (pcN x).s) ∧ ∀ rest, isH rest [101, 108, 115, 101] = false → Ev (fun f => pStmt f (toksC (pcN x).s ++ rest)) (.ok (zN x) false rest)
def BackB (x : Nd) : Prop := (pcN x).has = (!(zN x).kids.isEmpty) ∧ ∀ rest, Ev (fun f => pBlock f (toksC (pcN x).b ++ rest)) (.ok (zN x) false rest)

theorem stmts_more {rest : List Tok} (he : isH rest [101, 108, 115, 101] = false) : ∀ (ks : List Nd) (acc : List Nd), (∀ x ∈ ks, BackS x) → acc.length + ks.length ≤ 40 → ∀ res, Ev (fun f => pStmts f (acc ++ ks.map zN) rest) res →
    Ev (fun f => pStmts f acc (toksC (blanksC (ks.map pcN)) ++ rest)) res
  | [], acc, _, _, res, h => by simpa [blanksC, tk_nil] using h
  | x :: ks, acc, h, hl, res, hr => by
    obtain ⟨hf, hx⟩ := h x (by simp)
    have ih := stmts_more he ks (acc ++ [zN x]) (fun y hy => h y (by simp [hy])) (by simp at hl ⊢; omega) res (by simpa using hr)
    have e : toksC (blanksC ((x :: ks).map pcN)) ++ rest = toksC (pcN x).s ++ (toksC (blanksC (ks.map pcN)) ++ rest) := by
      simp only [blanksC, List.map_cons, List.flatMap_cons, toksC_append, List.cons_append, tk_bl, List.append_assoc]
    have hst : isH (toksC (blanksC (ks.map pcN)) ++ rest) [101, 108, 115, 101] = false := by
      cases ks with
      | nil => exact he
      | cons y r =>
        have e2 : toksC (blanksC ((y :: r).map pcN)) ++ rest = toksC (pcN y).s ++ (toksC (blanksC (r.map pcN)) ++ rest) := by
          simp only [blanksC, List.map_cons, List.flatMap_cons, toksC_append, List.cons_append, tk_bl, List.append_assoc]
        rw [e2]; exact ((h y (by simp)).1.app).not.2.1
    rw [e]
    have hn := (hf.app (b := toksC (blanksC (ks.map pcN)) ++ rest)).not
    refine .up (h := fun f => (pStmt f (toksC (pcN x).s ++ (toksC (blanksC (ks.map pcN)) ++ rest))).bindL fun e _ l => pStmts f (acc ++ [e]) l) (fun f => ?_) (.bindL (hx _ hst) ih)
    rw [pStmts, if_pos ⟨by simp at hl; omega, hn.1, hn.2.2⟩]
theorem block_all {ks : List Nd} (h : ∀ x ∈ ks, BackS x) (hl : ks.length ≤ 40) (rest : List Tok) : Ev (fun f => pBlock f (toksC (blockC (ks.map pcN)) ++ rest)) (.ok (ndK 29 (ks.map zN)) false rest) := by
  have e : toksC (blockC (ks.map pcN)) ++ rest = sgT [123] :: (toksC (blanksC (ks.map pcN)) ++ (sgT [125] :: rest)) := by
    unfold blockC
    rw [tk_sg, toksC_append]
    cases ks <;> simp [tk_sg, tk_bl, tk_nil]
  rw [e]
  have h1 : Ev (fun f => pStmts f (ks.map zN) (sgT [125] :: rest)) (.ok [] (ks.map zN) (sgT [125] :: rest)) := by
    refine .up (h := fun _ => .ok [] (ks.map zN) (sgT [125] :: rest)) (fun f => ?_) (.const _)
    rw [pStmts, isH_sg, if_neg (by simp)]
  have h2 := stmts_more (rest := sgT [125] :: rest) (by rw [isH_sg]; rfl) ks [] h (by simpa using hl) _ h1
  refine .up (h := fun f => (pStmts f [] (toksC (blanksC (ks.map pcN)) ++ (sgT [125] :: rest))).bind fun _ ks l => must [125] l fun l => .ok (ndK 29 ks) false l) (fun f => by rw [pBlock, must_sg]) (.lbind h2 ?_)
  exact .of (fun f => must_sg _ _ _) (.const _)
theorem back_fn {ns : List ByteArray} {ks : List Nd} (h6 : ns.length ≤ 6) (hl : ks.length ≤ 40) (hk : ∀ x ∈ ks, BackS x) : Unit8 (toksC (kw [102, 110] :: sg [40] :: (joinC ns ++ (sg [41] :: .bl :: blockC (ks.map pcN))))) (.mk 8 0 0 bz ns (ks.map zN) 0) false false := by
  have e : toksC (kw [102, 110] :: sg [40] :: (joinC ns ++ (sg [41] :: .bl :: blockC (ks.map pcN)))) = kwT [102, 110] :: sgT [40] :: (toksC (joinC ns) ++ (sgT [41] :: toksC (blockC (ks.map pcN)))) := by
    rw [tk_kw, tk_sg, toksC_append, tk_sg, tk_bl]
  rw [e]
  refine post_atom ⟨_, _, rfl, by decide⟩ (by rw [isH_kw]; rfl) (by rw [isH_kw]; rfl) fun rest => ?_
  have hb := block_all hk hl rest
  refine .up (h := fun f => (pBlock f (toksC (blockC (ks.map pcN)) ++ rest)).bind fun b _ l' => .ok (.mk 8 0 0 bz ns b.kids 0) false l') (fun f => ?_) (.bind hb (.const _))
  rw [List.cons_append, pAtom]
  have hc : (cur (kwT [102, 110] :: (sgT [40] :: (toksC (joinC ns) ++ (sgT [41] :: toksC (blockC (ks.map pcN)))) ++ rest))).kind = 2 := rfl
  have hp : (cur (kwT [102, 110] :: (sgT [40] :: (toksC (joinC ns) ++ (sgT [41] :: toksC (blockC (ks.map pcN)))) ++ rest))).pl = 0 := rfl
  rw [hc, hp]
  simp only [isH_kw]
  rw [if_neg (by decide), if_neg (by decide), if_neg (by decide), if_neg (by decide), if_neg (by decide), if_neg (by decide), if_neg (by decide), if_neg (by decide), if_neg (by decide), if_pos (by decide)]
  show must [40] (sgT [40] :: ((toksC (joinC ns) ++ (sgT [41] :: toksC (blockC (ks.map pcN)))) ++ rest)) _ = _
  rw [must_sg]
  have e2 : (toksC (joinC ns) ++ (sgT [41] :: toksC (blockC (ks.map pcN)))) ++ rest = toksC (joinC ns) ++ (sgT [41] :: (toksC (blockC (ks.map pcN)) ++ rest)) := by simp
  rw [e2, pars_all h6, PL.bind_ok]
theorem built_back {o : Int} (h : 1 ≤ o ∧ o ≤ 7) (l : List Tok) :
    firstT (kwT (builtT o).1) = true ∧ isT (kwT (builtT o).1) [45] = false ∧ isT (kwT (builtT o).1) [33] = false ∧ builtP (kwT (builtT o).1 :: l) = some o ∧
    [[110, 117, 108, 108], [116, 114, 117, 101], [102, 97, 108, 115, 101], [116, 104, 105, 115], [40], [123], [102, 110]].all (fun x => !isH (kwT (builtT o).1 :: l) x) = true ∧ ((builtT o).2 = 1 ∨ (builtT o).2 = 2) := by
  obtain rfl | rfl | rfl | rfl | rfl | rfl | rfl : o = 1 ∨ o = 2 ∨ o = 3 ∨ o = 4 ∨ o = 5 ∨ o = 6 ∨ o = 7 := by omega
  all_goals exact ⟨by decide, by decide, by decide, rfl, rfl, by decide⟩
theorem back_built {o : Int} (ho : 1 ≤ o ∧ o ≤ 7) {ks : List Nd} (hc : ks.length = (builtT o).2) (hk : ∀ x ∈ ks, UnitAt 1 (toksC (pcN x).e) (zN x) (bareE x)) : Unit8 (toksC (kw (builtT o).1 :: argsC (ks.map pcN))) (ndO 17 o (ks.map zN)) false false := by
  obtain ⟨b1, b2, b3, _, _, b6⟩ := built_back ho []
  rw [tk_kw]
  refine post_atom ⟨_, _, rfl, b1⟩ b2 b3 fun rest => ?_
  obtain ⟨_, _, _, b4, b5, _⟩ := built_back ho (toksC (argsC (ks.map pcN)) ++ rest)
  simp only [List.all_cons, List.all_nil, Bool.and_eq_true, Bool.not_eq_true'] at b5
  obtain ⟨n1, n2, n3, n4, n5, n6, n7, _⟩ := b5
  have head : ∀ f, pAtom (f + 1) (kwT (builtT o).1 :: toksC (argsC (ks.map pcN)) ++ rest) = must [40] (toksC (argsC (ks.map pcN)) ++ rest) fun l => (pRank f 1 l).bind fun e _ l =>
          if (builtT o).2 = 2 then must [44] l fun l => (pRank f 1 l).bind fun e' _ l => must [41] l fun l => .ok (ndO 17 o [e, e']) false l
          else must [41] l fun l => .ok (ndO 17 o [e]) false l := by
    intro f
    rw [List.cons_append, pAtom]
    have hcur : (cur (kwT (builtT o).1 :: (toksC (argsC (ks.map pcN)) ++ rest))).kind = 2 := rfl
    rw [hcur, n1, n2, n3, n4, n5, n6, n7, b4, if_neg (by decide), if_neg (by decide), if_neg (by decide)]
    rfl
  refine .up head ?_
  have e : toksC (argsC (ks.map pcN)) ++ rest = sgT [40] :: (toksC (listC (ks.map pcN)) ++ (sgT [41] :: rest)) := by
    unfold argsC; rw [tk_sg, toksC_append]; simp [tk_sg, tk_nil]
  rw [e]
  refine .of (fun f => must_sg _ _ _) ?_
  rcases b6 with b6 | b6
  · rw [b6] at hc
    obtain ⟨x, rfl⟩ := List.length_eq_one_iff.1 hc
    have hw := (hk x (by simp)).whole (by omega) (rest := sgT [41] :: rest) (stop_close (by simp))
    have e2 : toksC (listC ([x].map pcN)) ++ (sgT [41] :: rest) = toksC (pcN x).e ++ (sgT [41] :: rest) := by simp [listC, commasC]
    rw [e2]
    refine .bind hw (.of (fun f => ?_) (.const _))
    rw [b6, if_neg (by decide), must_sg]; rfl
  · rw [b6] at hc
    obtain ⟨x, y, rfl⟩ := len_two hc
    have hx := hk x (by simp)
    have hy := hk y (by simp)
    have hw := hx.whole (by omega) (rest := sgT [44] :: (toksC (pcN y).e ++ (sgT [41] :: rest))) (stop_close (by simp))
    have hv := hy.whole (by omega) (rest := sgT [41] :: rest) (stop_close (by simp))
    have e2 : toksC (listC ([x, y].map pcN)) ++ (sgT [41] :: rest) = toksC (pcN x).e ++ (sgT [44] :: (toksC (pcN y).e ++ (sgT [41] :: rest))) := by
      simp only [listC, commasC, List.map_cons, List.map_nil, List.flatMap_cons, List.flatMap_nil, List.append_nil, toksC_append, tk_sg, tk_bl, List.append_assoc, List.cons_append]
    rw [e2]
    refine .bind hw ?_
    refine .of (h := fun f => (pRank f 1 (toksC (pcN y).e ++ (sgT [41] :: rest))).bind fun e' _ l => must [41] l fun l => .ok (ndO 17 o [zN x, e']) false l) (fun f => ?_) (.bind hv (.of (fun f => must_sg _ _ _) (.const _)))
    rw [b6, if_pos rfl, must_sg]

theorem rt_units {ks : List Nd} (h : ∀ x ∈ ks, Rt 1 x) (hb : ∀ x ∈ ks, BackE x) : ∀ x ∈ ks, UnitAt 1 (toksC (pcN x).e) (zN x) (bareE x) := fun x hx => (hb x hx).one (rank_pos (h x hx))

theorem back_get {s : ByteArray} {x : Nd} (hx : Rt 1 x) (ix : BackE x) : Unit8 (toksC (getC (pcN x) s)) (ndS 13 s [zN x]) true true := by
  obtain ⟨b, u⟩ := back_tight8 ix (rank_pos hx) 8 (by omega)
  unfold getC
  rw [toksC_append, tk_sg, tk_pp, tk_nil]
  exact unit_get u s
theorem back_index {x y : Nd} (hx : Rt 1 x) (hy : Rt 1 y) (ix : BackE x) (iy : BackE y) (nd : Bool) : Unit8 (toksC (indexC (pcN x) (pcN y))) (ndK 14 [zN x, zN y]) true nd := by
  obtain ⟨b, u⟩ := back_tight8 ix (rank_pos hx) 8 (by omega)
  unfold indexC
  rw [toksC_append, tk_sg, toksC_append, tk_sg, tk_nil]
  exact unit_index u (iy.one (rank_pos hy))
/-- a statement that ends with a semicolon -/
theorem stop_is (l : List Tok) : Stop 1 (sgT [61] :: l) := by
  refine ⟨⟨rfl, rfl, rfl⟩, fun r' _ => ?_⟩
  unfold signP sgR
  split <;> rfl
theorem stmt_short {ts : List Tok} {e : Nd} (h1 : isH ts [105, 102] = false) (h2 : isH ts [119, 104, 105, 108, 101] = false) {rest : List Tok} (h : Ev (fun f => pShort f ts) (.ok e false (sgT [59] :: rest))) : Ev (fun f => pStmt f ts) (.ok e false rest) := by
  refine .up (h := fun f => (pShort f ts).bind fun e _ l => must [59] l fun l => .ok e false l) (fun f => ?_) (.bind h (.of (fun f => must_sg _ _ _) (.const _)))
  rw [pStmt, h1, h2]; rfl
theorem short_expr {ts rest : List Tok} {e : Nd} {b : Bool} (hf : Firsts ts) (h : UnitAt 1 ts e b) : Ev (fun f => pShort f (ts ++ (sgT [59] :: rest))) (.ok (ndK 32 [e]) false (sgT [59] :: rest)) := by
  have hw := h.whole (by omega) (rest := sgT [59] :: rest) (stop_close (by simp))
  have hn := fun x hx => (hf.app (b := sgT [59] :: rest)).not (x := x) hx
  refine .up (h := fun f => (pRank f 1 (ts ++ (sgT [59] :: rest))).bind fun e b l => if b = true ∧ isH l [61] = true then (pRank f 1 l.tail).bind fun v _ l => .ok (becomeN e v) false l else .ok (ndK 32 [e]) false l) (fun f => ?_) (.bind hw (.of (fun f => ?_) (.const _)))
  · rw [pShort, hn _ (by decide), hn _ (by decide), hn _ (by decide), hn _ (by decide)]; rfl
  · rw [isH_sg, if_neg (by intro h; exact absurd h.2 (by decide))]
theorem short_become {ts tv rest : List Tok} {e v : Nd} {b : Bool} (hf : Firsts ts) (h : UnitAt 1 ts e true) (hv : UnitAt 1 tv v b) : Ev (fun f => pShort f (ts ++ (sgT [61] :: (tv ++ (sgT [59] :: rest))))) (.ok (becomeN e v) false (sgT [59] :: rest)) := by
  have hw := h.whole (by omega) (rest := sgT [61] :: (tv ++ (sgT [59] :: rest))) (stop_is _)
  have hw2 := hv.whole (by omega) (rest := sgT [59] :: rest) (stop_close (by simp))
  have hn := fun x hx => (hf.app (b := sgT [61] :: (tv ++ (sgT [59] :: rest)))).not (x := x) hx
  refine .up (h := fun f => (pRank f 1 (ts ++ (sgT [61] :: (tv ++ (sgT [59] :: rest))))).bind fun e b l => if b = true ∧ isH l [61] = true then (pRank f 1 l.tail).bind fun v _ l => .ok (becomeN e v) false l else .ok (ndK 32 [e]) false l) (fun f => ?_) (.bind hw ?_)
  · rw [pShort, hn _ (by decide), hn _ (by decide), hn _ (by decide), hn _ (by decide)]; rfl
  · refine .of (h := fun f => (pRank f 1 (tv ++ (sgT [59] :: rest))).bind fun v _ l => .ok (becomeN e v) false l) (fun f => ?_) (.bind hw2 (.const _))
    rw [isH_sg, if_pos ⟨rfl, by decide⟩]; rfl
theorem becomes_toks (x : Px) (R : List Pc) : toksC (becomesC x ++ R) = sgT [61] :: (toksC x.e ++ toksC R) := by
  unfold becomesC; rw [List.cons_append, List.cons_append, List.cons_append, tk_bl, tk_sg, tk_bl, toksC_append]
theorem stmt_become {ts : List Tok} {e : Nd} (h : UnitAt 1 ts e true) {v : Nd} (hv : UnitAt 1 (toksC (pcN v).e) (zN v) (bareE v)) {x : Nd} (ht : toksC (pcN x).s = ts ++ (sgT [61] :: (toksC (pcN v).e ++ [sgT [59]]))) (hz : becomeN e (zN v) = zN x) : BackS x := by
  have hf := h.1
  refine ⟨by rw [ht]; exact .ofE hf.app, fun rest _ => ?_⟩
  rw [ht, ← hz]
  have e2 : ts ++ (sgT [61] :: (toksC (pcN v).e ++ [sgT [59]])) ++ rest = ts ++ (sgT [61] :: (toksC (pcN v).e ++ (sgT [59] :: rest))) := by simp
  rw [e2]
  exact stmt_short (hf.app.not (by decide)) (hf.app.not (by decide)) (short_become hf h hv)
theorem short_key {key : List UInt8} {k : Int} (hk : key = [112, 114, 105, 110, 116] ∧ k = 27 ∨ key = [114, 101, 116, 117, 114, 110] ∧ k = 31) {ts rest : List Tok} {e : Nd} {b : Bool} (h : UnitAt 1 ts e b) :
    Ev (fun f => pStmt f (kwT key :: (ts ++ (sgT [59] :: rest)))) (.ok (ndK k [e]) false rest) := by
  have hw := h.whole (by omega) (rest := sgT [59] :: rest) (stop_close (by simp))
  refine stmt_short (by rw [isH_kw]; rcases hk with ⟨rfl, _⟩ | ⟨rfl, _⟩ <;> rfl) (by rw [isH_kw]; rcases hk with ⟨rfl, _⟩ | ⟨rfl, _⟩ <;> rfl) ?_
  refine .up (h := fun f => (pRank f 1 (ts ++ (sgT [59] :: rest))).bind fun e _ l => .ok (ndK k [e]) false l) (fun f => ?_) (.bind hw (.const _))
  rw [pShort]
  rcases hk with ⟨rfl, rfl⟩ | ⟨rfl, rfl⟩ <;> simp only [isH_kw] <;> rfl
theorem stmt_del {ts rest : List Tok} {e : Nd} {nc : Bool} (h : Unit8 ts e true nc) (h5 : e.kind ≠ 5) : Ev (fun f => pStmt f (kwT [100, 101, 108, 101, 116, 101] :: (ts ++ (sgT [59] :: rest)))) (.ok (if e.kind = 13 then ndS 25 e.str e.kids else ndK 26 e.kids) false rest) := by
  refine stmt_short (by rw [isH_kw]; rfl) (by rw [isH_kw]; rfl) ?_
  have hp : Ev (fun f => pPost f (ts ++ (sgT [59] :: rest))) (.ok e true (sgT [59] :: rest)) := h.2.2.2 _ _ (fun _ => by rw [isH_sg]; rfl) (tail_stop (stop_close (c := 59) (by simp)).1)
  refine .up (h := fun f => (pPost f (ts ++ (sgT [59] :: rest))).bind fun e b l => if b = true ∧ e.kind ≠ 5 then .ok (if e.kind = 13 then ndS 25 e.str e.kids else ndK 26 e.kids) false l else .bad l) (fun f => ?_) (.bind hp (.of (fun f => ?_) (.const _)))
  · rw [pShort]; simp only [isH_kw]; rfl
  · rw [if_pos ⟨rfl, h5⟩]
theorem ask_all {ts rest : List Tok} {e : Nd} {b : Bool} (h : UnitAt 1 ts e b) : Ev (fun f => pAsk f (sgT [40] :: (ts ++ (sgT [41] :: rest)))) (.ok e false rest) := by
  have hw := h.whole (by omega) (rest := sgT [41] :: rest) (stop_close (by simp))
  exact .up (h := fun f => (pRank f 1 (ts ++ (sgT [41] :: rest))).bind fun e _ l => must [41] l fun l => .ok e false l) (fun f => by rw [pAsk, must_sg]) (.bind hw (.of (fun f => must_sg _ _ _) (.const _)))

def BackP (a : Nat) (t : Nd) : Prop := (a = 1 → BackE t) ∧ (a = 2 → BackS t) ∧ (a = 3 → BackB t)
theorem backE {t : Nd} (h : BackE t) : BackP 1 t := ⟨fun _ => h, fun h => (by cases h), fun h => (by cases h)⟩
theorem backS {t : Nd} (h : BackS t) : BackP 2 t := ⟨fun h => (by cases h), fun _ => h, fun h => (by cases h)⟩
theorem backB {t : Nd} (h : BackB t) : BackP 3 t := ⟨fun h => (by cases h), fun h => (by cases h), fun _ => h⟩

theorem back_rt {a : Nat} {t : Nd} (h : Rt a t) : BackP a t := by
  induction h with
  | null p => exact backE (back_of8 (unit_atom (t := kwT [110, 117, 108, 108]) (by decide) (by decide) (by decide) fun f rest => by rw [pAtom]; rfl) (by simp only [rankE, Nd.kind, Nd.op]; decide))
  | bool n p hn =>
    rcases hn with rfl | rfl
    · exact backE (back_of8 (unit_atom (t := kwT [102, 97, 108, 115, 101]) (by decide) (by decide) (by decide) fun f rest => by rw [pAtom]; rfl) (by simp only [rankE, Nd.kind, Nd.op]; decide))
    · exact backE (back_of8 (unit_atom (t := kwT [116, 114, 117, 101]) (by decide) (by decide) (by decide) fun f rest => by rw [pAtom]; rfl) (by simp only [rankE, Nd.kind, Nd.op]; decide))
  | int n p hn => exact backE (back_of8 (unit_atom (t := ⟨3, ⟨(digs n).toArray⟩, n, 0⟩) rfl rfl rfl fun f rest => by rw [pAtom]; rfl) (by simp only [rankE, Nd.kind, Nd.op]; decide))
  | str s p hs => exact backE (back_of8 (unit_atom (t := ⟨4, s, 0, 0⟩) rfl rfl rfl fun f rest => by rw [pAtom]; rfl) (by simp only [rankE, Nd.kind, Nd.op]; decide))
  | name s p hs => exact backE (back_of8 (unit_atom (t := nmT s) rfl rfl rfl fun f rest => by rw [pAtom]; rfl) (by simp only [rankE, Nd.kind, Nd.op]; decide))
  | this p => exact backE (back_of8 (unit_atom (t := kwT [116, 104, 105, 115]) (by decide) (by decide) (by decide) fun f rest => by rw [pAtom]; rfl) (by simp only [rankE, Nd.kind, Nd.op]; decide))
  | obj ns ks p hl hm hns hk ih =>
    refine backE (back_of8 ?_ (by simp only [rankE, Nd.kind, Nd.op]; decide))
    rw [zN_mk, pcN_mk]
    exact back_obj hl hm (rt_units hk fun x hx => (ih x hx).1 rfl)
  | fn ns ks p hm hns hc hk ih =>
    refine backE (back_of8 ?_ (by simp only [rankE, Nd.kind, Nd.op]; decide))
    rw [zN_mk, pcN_mk]
    exact back_fn hm hc fun x hx => (ih x hx).2.1 rfl
  | un o x p ho hx ix =>
    have hr : rankE (.mk 9 o 0 bz [] [x] p) = 7 := by simp only [rankE, Nd.kind, Nd.op, rankT]; rfl
    refine backE (back_at (by omega) ?_)
    rw [hr, zN_mk, pcN_mk]
    obtain ⟨b, u⟩ := back_tight (ix.1 rfl) (rank_pos hx) (r := 7) (by omega)
    have hu := u.2
    rw [if_neg (by omega)] at hu
    rcases ho with rfl | rfl
    · refine ⟨⟨sgT [45], _, rfl, by decide⟩, ?_⟩
      rw [if_neg (by omega)]
      intro rest hrest
      refine .up (h := fun f => (pRank f 7 (toksC (tightC (pcN x) ((7 : Nat) : Int)) ++ rest)).bind fun e _ l => .ok (ndO 9 1 [e]) false l) (fun f => ?_) (.bind (hu rest hrest) (.const _))
      show pRank (f + 1) 7 (sgT [45] :: (toksC (tightC (pcN x) ((7 : Nat) : Int)) ++ rest)) = _
      rw [pRank, isH_sg]; rfl
    · refine ⟨⟨sgT [33], _, rfl, by decide⟩, ?_⟩
      rw [if_neg (by omega)]
      intro rest hrest
      refine .up (h := fun f => (pRank f 7 (toksC (tightC (pcN x) ((7 : Nat) : Int)) ++ rest)).bind fun e _ l => .ok (ndO 9 2 [e]) false l) (fun f => ?_) (.bind (hu rest hrest) (.const _))
      show pRank (f + 1) 7 (sgT [33] :: (toksC (tightC (pcN x) ((7 : Nat) : Int)) ++ rest)) = _
      rw [pRank, isH_sg, isH_sg]; rfl
  | bin o x y p ho hx hy ix iy =>
    obtain ⟨r, e, r3, r6, _, _⟩ := sign_back ho []
    have hr : rankE (.mk 10 o 0 bz [] [x, y] p) = r := by simp only [rankE, Nd.kind, Nd.op, e]; omega
    refine backE (back_at (by omega) ?_)
    rw [hr, zN_mk, pcN_mk]
    show UnitAt r (toksC (betweenC (rankT 10 o) (signT o) (pcN x) (pcN y))) (ndO 10 o [zN x, zN y]) false
    rw [e]
    refine back_between (by omega) r6 (fun l => ?_) (ix.1 rfl) (iy.1 rfl) (rank_pos hx) (rank_pos hy)
    obtain ⟨r', e', _, _, h3, h4⟩ := sign_back ho l
    have : r' = r := by omega
    subst this
    exact ⟨h3, h4⟩
  | and x y p hx hy ix iy =>
    refine backE (back_at (by simp only [rankE, Nd.kind, Nd.op]; decide) ?_)
    rw [zN_mk, pcN_mk]
    exact back_between (r := 2) (by omega) (by omega) and_back (ix.1 rfl) (iy.1 rfl) (rank_pos hx) (rank_pos hy)
  | or x y p hx hy ix iy =>
    refine backE (back_at (by simp only [rankE, Nd.kind, Nd.op]; decide) ?_)
    rw [zN_mk, pcN_mk]
    exact back_between (r := 1) (by omega) (by omega) or_back (ix.1 rfl) (iy.1 rfl) (rank_pos hx) (rank_pos hy)
  | get s x p hs hx ix =>
    refine backE (back_of8 ?_ (by simp only [rankE, Nd.kind, Nd.op]; decide))
    rw [zN_mk, pcN_mk]
    exact back_get hx (ix.1 rfl)
  | index x y p hx hy ix iy =>
    refine backE (back_of8 ?_ (by simp only [rankE, Nd.kind, Nd.op]; decide))
    rw [zN_mk, pcN_mk]
    exact back_index hx hy (ix.1 rfl) (iy.1 rfl) _
  | call x ks p hc hx hk ix ik =>
    refine backE (back_of8 ?_ (by simp only [rankE, Nd.kind, Nd.op]; decide))
    rw [zN_mk, pcN_mk]
    show Unit8 (toksC (tightC (pcN x) (if (pcN x).kind = 13 then 9 else 8) ++ argsC (ks.map pcN))) (ndK 15 (zN x :: ks.map zN)) false false
    rw [toksC_append, pcN_kind]
    obtain ⟨b, u⟩ := back_tight8 (ix.1 rfl) (rank_pos hx) (if x.kind = 13 then 9 else 8) (by split <;> omega)
    have hnc : decide (x.kind = 13 ∧ (if x.kind = 13 then (9 : Int) else 8) ≤ rankT x.kind x.op) = false := by
      rw [decide_eq_false_iff_not]
      rintro ⟨h1, h2⟩
      rw [h1] at h2
      simp [rankT] at h2
    rw [hnc] at u
    exact unit_call u (rt_units hk fun x hx => (ik x hx).1 rfl) hc
  | meth s x ks p hs hc hx hk ix ik =>
    refine backE (back_of8 ?_ (by simp only [rankE, Nd.kind, Nd.op]; decide))
    rw [zN_mk, pcN_mk]
    show Unit8 (toksC (getC (pcN x) s ++ argsC (ks.map pcN))) (ndS 16 s (zN x :: ks.map zN)) false false
    obtain ⟨b, u⟩ := back_tight8 (ix.1 rfl) (rank_pos hx) 8 (by omega)
    have := unit_meth u s (rt_units hk fun x hx => (ik x hx).1 rfl) hc
    unfold getC
    rw [toksC_append, toksC_append, tk_sg, tk_pp, tk_nil, List.append_assoc]
    exact this
  | built o ks p ho hc hk ik =>
    refine backE (back_of8 ?_ (by simp [rankE, Nd.kind, rankT]))
    rw [zN_mk, pcN_mk]
    exact back_built ho hc (rt_units hk fun x hx => (ik x hx).1 rfl)
  | slet s x p hs hx ix =>
    refine backS ⟨⟨kwT [108, 101, 116], _, rfl, by decide⟩, fun rest _ => ?_⟩
    rw [zN_mk, pcN_mk]
    have hv := (ix.1 rfl).one (rank_pos hx)
    have hw := hv.whole (by omega) (rest := sgT [59] :: rest) (stop_close (by simp))
    have e : toksC (stmtC 21 s ([x].map pcN)) ++ rest = kwT [108, 101, 116] :: nmT s :: sgT [61] :: (toksC (pcN x).e ++ (sgT [59] :: rest)) := by
      show toksC (kw [108, 101, 116] :: .bl :: nm s :: (becomesC (pcN x) ++ [sg [59]])) ++ rest = _
      rw [tk_kw, tk_bl, tk_nm, becomes_toks, tk_sg, tk_nil]; simp
    rw [e]
    refine stmt_short (by rw [isH_kw]; rfl) (by rw [isH_kw]; rfl) ?_
    refine .up (h := fun f => (pRank f 1 (toksC (pcN x).e ++ (sgT [59] :: rest))).bind fun e _ l' => .ok (.mk 21 0 0 s [] [e] 0) false l') (fun f => ?_) (.bind hw (.const _))
    rw [pShort, isH_kw, if_pos (by decide)]
    show wordP false (nmT s :: sgT [61] :: (toksC (pcN x).e ++ (sgT [59] :: rest))) _ = _
    rw [wordP_nm, must_sg]; rfl
  | assign s x p hs hx ix =>
    have hn : BackE (.mk 5 0 0 s [] [] p) := back_of8 (unit_atom (t := nmT s) rfl rfl rfl fun f rest => by rw [pAtom]; rfl) (by simp only [rankE, Nd.kind, Nd.op]; decide)
    refine backS (stmt_become (ts := [nmT s]) (e := .mk 5 0 0 s [] [] 0) (hn.one (by simp only [rankE, Nd.kind, Nd.op]; decide)) ((ix.1 rfl).one (rank_pos hx)) ?_ ?_)
    · rw [pcN_mk]
      show toksC (nm s :: (becomesC (pcN x) ++ [sg [59]])) = _
      rw [tk_nm, becomes_toks]; rfl
    · rw [zN_mk]; rfl
  | set s x y p hs hx hy ix iy =>
    have hg := back_get (s := s) hx (ix.1 rfl)
    refine backS (stmt_become (hg.at7.to (by omega) (by omega)) ((iy.1 rfl).one (rank_pos hy)) ?_ ?_)
    · rw [pcN_mk]
      show toksC (getC (pcN x) s ++ becomesC (pcN y) ++ [sg [59]]) = _
      rw [List.append_assoc, toksC_append, becomes_toks]; rfl
    · rw [zN_mk]; rfl
  | setix x y z p hx hy hz ix iy iz =>
    have hg := back_index hx hy (ix.1 rfl) (iy.1 rfl) false
    refine backS (stmt_become (hg.at7.to (by omega) (by omega)) ((iz.1 rfl).one (rank_pos hz)) ?_ ?_)
    · rw [pcN_mk]
      show toksC (indexC (pcN x) (pcN y) ++ becomesC (pcN z) ++ [sg [59]]) = _
      rw [List.append_assoc, toksC_append, becomes_toks]; rfl
    · rw [zN_mk]; rfl
  | del s x p hs hx ix =>
    refine backS ⟨⟨kwT [100, 101, 108, 101, 116, 101], _, rfl, by decide⟩, fun rest _ => ?_⟩
    rw [zN_mk, pcN_mk]
    have e : toksC (stmtC 25 s ([x].map pcN)) ++ rest = kwT [100, 101, 108, 101, 116, 101] :: (toksC (getC (pcN x) s) ++ (sgT [59] :: rest)) := by
      show toksC (kw [100, 101, 108, 101, 116, 101] :: .bl :: (getC (pcN x) s ++ [sg [59]])) ++ rest = _
      rw [tk_kw, tk_bl, toksC_append, tk_sg, tk_nil]; simp
    rw [e]
    exact stmt_del (back_get hx (ix.1 rfl)) (by simp [ndS, Nd.kind])
  | delix x y p hx hy ix iy =>
    refine backS ⟨⟨kwT [100, 101, 108, 101, 116, 101], _, rfl, by decide⟩, fun rest _ => ?_⟩
    rw [zN_mk, pcN_mk]
    have e : toksC (stmtC 26 bz ([x, y].map pcN)) ++ rest = kwT [100, 101, 108, 101, 116, 101] :: (toksC (indexC (pcN x) (pcN y)) ++ (sgT [59] :: rest)) := by
      show toksC (kw [100, 101, 108, 101, 116, 101] :: .bl :: (indexC (pcN x) (pcN y) ++ [sg [59]])) ++ rest = _
      rw [tk_kw, tk_bl, toksC_append, tk_sg, tk_nil]; simp
    rw [e]
    exact stmt_del (back_index hx hy (ix.1 rfl) (iy.1 rfl) false) (by simp [ndK, Nd.kind])
  | print x p hx ix =>
    refine backS ⟨⟨kwT [112, 114, 105, 110, 116], _, rfl, by decide⟩, fun rest _ => ?_⟩
    rw [zN_mk, pcN_mk]
    have e : toksC (stmtC 27 bz ([x].map pcN)) ++ rest = kwT [112, 114, 105, 110, 116] :: (toksC (pcN x).e ++ (sgT [59] :: rest)) := by
      show toksC (kw [112, 114, 105, 110, 116] :: .bl :: ((pcN x).e ++ [sg [59]])) ++ rest = _
      rw [tk_kw, tk_bl, toksC_append, tk_sg, tk_nil]; simp
    rw [e]
    exact short_key (.inl ⟨rfl, rfl⟩) ((ix.1 rfl).one (rank_pos hx))
  | ret x p hx ix =>
    refine backS ⟨⟨kwT [114, 101, 116, 117, 114, 110], _, rfl, by decide⟩, fun rest _ => ?_⟩
    rw [zN_mk, pcN_mk]
    have e : toksC (stmtC 31 bz ([x].map pcN)) ++ rest = kwT [114, 101, 116, 117, 114, 110] :: (toksC (pcN x).e ++ (sgT [59] :: rest)) := by
      show toksC (kw [114, 101, 116, 117, 114, 110] :: .bl :: ((pcN x).e ++ [sg [59]])) ++ rest = _
      rw [tk_kw, tk_bl, toksC_append, tk_sg, tk_nil]; simp
    rw [e]
    exact short_key (.inr ⟨rfl, rfl⟩) ((ix.1 rfl).one (rank_pos hx))
  | sexpr x p hx ix =>
    have hv := (ix.1 rfl).one (rank_pos hx)
    have e0 : toksC (pcN (.mk 32 0 0 bz [] [x] p)).s = toksC (pcN x).e ++ [sgT [59]] := by
      rw [pcN_mk]
      show toksC ((pcN x).e ++ [sg [59]]) = _
      rw [toksC_append]; rfl
    refine backS ⟨by rw [e0]; exact .ofE hv.1.app, fun rest _ => ?_⟩
    rw [e0, zN_mk, List.append_assoc]
    exact stmt_short (hv.1.app.not (by decide)) (hv.1.app.not (by decide)) (short_expr hv.1 hv)
  | iff x y z p hx hy hz ix iy iz =>
    have hv := (ix.1 rfl).one (rank_pos hx)
    obtain ⟨_, hby⟩ := iy.2.2 rfl
    obtain ⟨hhz, hbz⟩ := iz.2.2 rfl
    have hzz : ∃ ks, zN z = ndK 29 ks := by
      cases hz with
      | block ks q hc hk => exact ⟨_, zN_mk _ _ _ _ _ _ _⟩
    obtain ⟨zks, hzz⟩ := hzz
    refine backS ⟨by rw [pcN_mk]; exact ⟨kwT [105, 102], _, rfl, by decide⟩, fun rest hrest => ?_⟩
    rw [zN_mk, pcN_mk]
    have e : toksC (stmtC 28 bz ([x, y, z].map pcN)) ++ rest = kwT [105, 102] :: sgT [40] :: (toksC (pcN x).e ++ (sgT [41] :: (toksC (pcN y).b ++ (toksC (if (pcN z).has then .bl :: kw [101, 108, 115, 101] :: .bl :: (pcN z).b else []) ++ rest)))) := by
      show toksC (branchC [105, 102] (pcN x) (pcN y) ++ (if (pcN z).has then .bl :: kw [101, 108, 115, 101] :: .bl :: (pcN z).b else [])) ++ rest = _
      unfold branchC
      rw [toksC_append, tk_kw, tk_bl, tk_sg, toksC_append, tk_sg, tk_bl]; simp
    rw [e]
    refine .up (h := fun f => (pAsk f (sgT [40] :: (toksC (pcN x).e ++ (sgT [41] :: (toksC (pcN y).b ++ (toksC (if (pcN z).has then .bl :: kw [101, 108, 115, 101] :: .bl :: (pcN z).b else []) ++ rest)))))).bind fun e _ l => (pBlock f l).bind fun y _ l =>
      if isH l [101, 108, 115, 101] then (pBlock f l.tail).bind fun z _ l => .ok (ndK 28 [e, y, z]) false l else .ok (ndK 28 [e, y, ndK 29 []]) false l) (fun f => by rw [pStmt, isH_kw]; rfl) (.bind (ask_all hv) (.bind (hby _) ?_))
    cases hh : (pcN z).has with
    | true =>
      refine .of (h := fun f => (pBlock f (toksC (pcN z).b ++ rest)).bind fun z _ l => .ok (ndK 28 [zN x, zN y, z]) false l) (fun f => ?_) (.bind (hbz rest) (.const _))
      rw [if_pos rfl, tk_bl, tk_kw, tk_bl, List.cons_append, isH_kw, if_pos (by decide)]; rfl
    | false =>
      rw [hzz] at hhz
      have hz0 : zks = [] := by
        rw [hh] at hhz
        have : (ndK 29 zks).kids = zks := rfl
        rw [this] at hhz
        cases zks with
        | nil => rfl
        | cons => cases hhz
      refine .of (h := fun f => .ok (ndK 28 [zN x, zN y, zN z]) false rest) (fun f => ?_) (.const _)
      have e3 : (toksC (if false = true then Pc.bl :: kw [101, 108, 115, 101] :: Pc.bl :: (pcN z).b else []) ++ rest) = rest := rfl
      rw [e3, hrest, hzz, hz0]; rfl
  | whil x y p hx hy ix iy =>
    have hv := (ix.1 rfl).one (rank_pos hx)
    obtain ⟨_, hby⟩ := iy.2.2 rfl
    refine backS ⟨by rw [pcN_mk]; exact ⟨kwT [119, 104, 105, 108, 101], _, rfl, by decide⟩, fun rest hrest => ?_⟩
    rw [zN_mk, pcN_mk]
    have e : toksC (stmtC 30 bz ([x, y].map pcN)) ++ rest = kwT [119, 104, 105, 108, 101] :: sgT [40] :: (toksC (pcN x).e ++ (sgT [41] :: (toksC (pcN y).b ++ rest))) := by
      show toksC (branchC [119, 104, 105, 108, 101] (pcN x) (pcN y)) ++ rest = _
      unfold branchC
      rw [tk_kw, tk_bl, tk_sg, toksC_append, tk_sg, tk_bl]; simp
    rw [e]
    refine .up (h := fun f => (pAsk f (sgT [40] :: (toksC (pcN x).e ++ (sgT [41] :: (toksC (pcN y).b ++ rest))))).bind fun e _ l => (pBlock f l).bind fun y _ l => .ok (ndK 30 [e, y]) false l) (fun f => by rw [pStmt, isH_kw, isH_kw]; rfl) (.bind (ask_all hv) (.bind (hby _) (.const _)))
  | block ks p hc hk ik =>
    refine backB ⟨?_, fun rest => ?_⟩
    · rw [pcN_mk, zN_mk]
      show (!ks.isEmpty) = !(ks.map zN).isEmpty
      cases ks <;> rfl
    · rw [pcN_mk, zN_mk]
      exact block_all (fun x hx => (ik x hx).2.1 rfl) hc rest

/-- the token at a text's end -/
def endT : Tok := ⟨6, ⟨#[]⟩, 0, 0⟩
/-- a right program comes back from its tokens -/
theorem back_print {t : Nd} (h : rightN t 3 = true) : Ev (fun f => pWhole f true (toksC (printC t) ++ [endT])) (.ok (zN t) false [endT]) := by
  have hr := of_right t 3 (by simp) h
  cases hr with
  | block ks p hc hk =>
    have hk' : ∀ x ∈ ks, BackS x := fun x hx => (back_rt (hk x hx)).2.1 rfl
    have e : toksC (printC (.mk 29 0 0 bz [] ks p)) ++ [endT] = toksC (blanksC (ks.map pcN)) ++ [endT] := by
      show toksC (programC (ks.map pcN)) ++ [endT] = _
      cases ks with
      | nil => rfl
      | cons x r => simp only [programC, blanksC, List.map_cons, List.flatMap_cons, toksC_append, List.cons_append, tk_bl]
    have h1 : Ev (fun f => pStmts f (ks.map zN) [endT]) (.ok [] (ks.map zN) [endT]) := by
      refine .up (h := fun _ => .ok [] (ks.map zN) [endT]) (fun f => ?_) (.const _)
      rw [pStmts, if_neg (by rintro ⟨_, _, h⟩; exact h rfl)]
    have h2 := stmts_more (rest := [endT]) rfl ks [] hk' (by simpa using hc) _ h1
    rw [e, zN_mk]
    refine .of (h := fun f => ((pStmts f [] (toksC (blanksC (ks.map pcN)) ++ [endT])).bind fun _ ks l => .ok (ndK 29 ks) false l).bind fun e _ l => if (cur l).kind = 6 then .ok e false l else .bad l) (fun f => rfl) (.bind (.lbind h2 (.const _)) (.of (fun f => ?_) (.const _)))
    rfl

end Go.Proofs.YtlnllpehifkjhaaDoor
