/- Programs of instructions come back from their texts; a text that is read is written just so. -/
import Derived.Test.YtnojlfdojmkonaaGreatDoorJoint7
namespace Go.Proofs.YtnojlfdojmkonaaGreatDoor
set_option linter.unusedVariables false
open Go.RowKit

theorem opW_all : ∀ i : Fin 32, (∀ x ∈ asmW.getD i.val [], 97 ≤ x.toNat) ∧ asmW.getD i.val [] ≠ [] := by decide
theorem opW_clean {b : UInt8} (hb : b.toNat < 97) (o : Int) : ∀ x ∈ opW o, x ≠ b := by
  intro x hx e
  unfold opW at hx
  split at hx
  · rename_i h
    have := (opW_all ⟨(o - 1).toNat, by omega⟩).1 x hx
    rw [e] at this
    omega
  · cases hx
theorem opW_inj' : ∀ i j : Fin 32, asmW.getD i.val [] = asmW.getD j.val [] → i = j := by decide
theorem opW_inj {a b : Int} (ha : 1 ≤ a ∧ a ≤ 32) (hb : 1 ≤ b ∧ b ≤ 32) (h : opW a = opW b) : a = b := by
  unfold opW at h
  rw [if_pos ha, if_pos hb] at h
  have := opW_inj' ⟨(a - 1).toNat, by omega⟩ ⟨(b - 1).toNat, by omega⟩ h
  have e := congrArg Fin.val this
  simp at e
  omega
theorem opW_code : ∀ i : Fin 32, asmW.getD i.val [] ≠ codW := by decide
theorem prt_cases (o : Int) : prtN o = 0 ∨ prtN o = 1 ∨ prtN o = 2 := by
  unfold prtN
  split
  · omega
  · split <;> omega
/-- an instruction's numbers are such as can be written -/
def okX (x : In) : Prop := (1 ≤ x.1 ∧ x.1 ≤ 32) ∧ (prtN x.1 = 0 → x.2.1 = 0 ∧ x.2.2 = 0) ∧ (prtN x.1 = 1 → x.2.2 = 0 ∧ rngP x.2.1) ∧ (prtN x.1 = 2 → rngP x.2.1 ∧ rngP x.2.2)
/-- the instruction that a line is -/
def insF : List Int → List UInt8 → Option In
  | [], _ => none
  | o :: r, s => match numsP s (opW o) (prtN o) with
    | some m => some (o, m.headD 0, m.tail.headD 0)
    | none => insF r s
def opsL : List Int := [1, 2, 3, 4, 5, 6, 7, 8, 9, 10, 11, 12, 13, 14, 15, 16, 17, 18, 19, 20, 21, 22, 23, 24, 25, 26, 27, 28, 29, 30, 31, 32]
def insR (s : List UInt8) : Option In := insF opsL s
theorem insF_some : ∀ {l : List Int} {s : List UInt8} {x : In}, (∀ o ∈ l, 1 ≤ o ∧ o ≤ 32) → insF l s = some x → s = insP x ∧ okX x
  | [], s, x, _, h => by cases h
  | o :: r, s, x, hl, h => by
    rw [insF] at h
    cases hn : numsP s (opW o) (prtN o) with
    | none => rw [hn] at h; exact insF_some (fun q hq => hl q (by simp [hq])) h
    | some m =>
      rw [hn] at h
      have e := Option.some.inj h
      subst e
      obtain ⟨h1, h2, h3⟩ := (nums_iff (opW_clean (by decide) o)).1 hn
      have hm : [m.headD 0, m.tail.headD 0].take (prtN o) = m := by
        rcases prt_cases o with hp | hp | hp
        · rw [hp] at h2 ⊢
          rw [List.length_eq_zero_iff.1 h2]; rfl
        · rw [hp] at h2 ⊢
          obtain ⟨a, rfl⟩ := List.length_eq_one_iff.1 h2
          rfl
        · rw [hp] at h2 ⊢
          match m, h2 with
          | [a, b], _ => rfl
      refine ⟨by unfold insP; rw [hm]; exact h1, hl o (by simp), fun hp => ?_, fun hp => ?_, fun hp => ?_⟩
      · simp only at hp
        rw [hp] at h2
        rw [List.length_eq_zero_iff.1 h2]; exact ⟨rfl, rfl⟩
      · simp only at hp
        rw [hp] at h2
        obtain ⟨a, rfl⟩ := List.length_eq_one_iff.1 h2
        exact ⟨rfl, h3 a (by simp)⟩
      · simp only at hp
        rw [hp] at h2
        match m, h2, h3 with
        | [a, b], _, h3 => exact ⟨h3 a (by simp), h3 b (by simp)⟩
theorem lnP_head {w v : List UInt8} (hw : ∀ x ∈ w, x ≠ 32) (hv : ∀ x ∈ v, x ≠ 32) {ns ms : List Int} (h : lnP w ns = lnP v ms) : w = v := by
  have := congrArg (splitP 32) h
  rw [split_ln hw, split_ln hv] at this
  exact (List.cons.inj this).1
theorem insF_back {x : In} (hx : okX x) : ∀ {l : List Int}, (∀ o ∈ l, 1 ≤ o ∧ o ≤ 32) → x.1 ∈ l → insF l (insP x) = some x
  | [], _, h => by cases h
  | o :: r, hl, hm => by
    rw [insF]
    by_cases ho : o = x.1
    · subst ho
      have hn : numsP (insP x) (opW x.1) (prtN x.1) = some ([x.2.1, x.2.2].take (prtN x.1)) := by
        refine (nums_iff (opW_clean (by decide) _)).2 ⟨rfl, ?_, fun n hn => ?_⟩
        · rcases prt_cases x.1 with hp | hp | hp <;> rw [hp] <;> rfl
        · rcases prt_cases x.1 with hp | hp | hp
          · rw [hp] at hn; cases hn
          · rw [hp] at hn
            simp at hn
            rw [hn]; exact (hx.2.2.1 hp).2
          · rw [hp] at hn
            simp at hn
            rcases hn with rfl | rfl
            · exact (hx.2.2.2 hp).1
            · exact (hx.2.2.2 hp).2
      rw [hn]
      obtain ⟨o, a, b⟩ := x
      rcases prt_cases o with hp | hp | hp
      · have h0 := hx.2.1 hp
        simp only at h0 hp ⊢
        rw [hp, h0.1, h0.2]; rfl
      · have h0 := hx.2.2.1 hp
        simp only at h0 hp ⊢
        rw [hp, h0.1]; rfl
      · simp only at hp ⊢
        rw [hp]; rfl
    · have hn : numsP (insP x) (opW o) (prtN o) = none := nums_none (opW_clean (by decide) _) fun ns e =>
        ho (opW_inj hx.1 (hl o (by simp)) (lnP_head (opW_clean (by decide) _) (opW_clean (by decide) _) e)).symm
      rw [hn]
      refine insF_back hx (fun q hq => hl q (by simp [hq])) ?_
      rcases List.mem_cons.1 hm with h | h
      · exact absurd h.symm ho
      · exact h
theorem ops_in : ∀ o ∈ opsL, 1 ≤ o ∧ o ≤ 32 := by decide
theorem ops_all {o : Int} (h : 1 ≤ o ∧ o ≤ 32) : o ∈ opsL := by
  simp [opsL]
  omega
theorem insR_iff {s : List UInt8} {x : In} : insR s = some x ↔ s = insP x ∧ okX x :=
  ⟨fun h => insF_some ops_in h, fun ⟨h1, h2⟩ => by rw [h1]; exact insF_back h2 ops_in (ops_all h2.1)⟩

/-- a line more; whether it can stand there (n: how many lines were there) -/
def takeP (P : Pg) (n : Nat) (s : List UInt8) : Option Pg :=
  if n = 0 then (match numsP s gloW 1 with | some m => some ⟨m.headD 0, P.pool, P.codes⟩ | none => none)
  else if P.codes = [] ∧ 5 < s.length ∧ s.take 5 = polW then
    (if (takeOut (s.drop 5)).2.2 = 0 ∧ (takeOut (s.drop 5)).2.1 = s.length - 5 ∧ quoted (takeOut (s.drop 5)).1 = s.drop 5 then some ⟨P.g, P.pool ++ [⟨(takeOut (s.drop 5)).1.toArray⟩], P.codes⟩ else none)
  else match numsP s codW 4 with
    | some m => some ⟨P.g, P.pool, P.codes ++ [⟨m.headD 0, m.tail.headD 0, m.tail.tail.headD 0, m.tail.tail.tail.headD 0, []⟩]⟩
    | none => match P.codes.getLast? with
      | none => none
      | some c => match insR s with
        | none => none
        | some x => some ⟨P.g, P.pool, P.codes.dropLast ++ [⟨c.p, c.l, c.s, c.d, c.ins ++ [x]⟩]⟩
/-- what lines come to: a program, or the first one that can't stand there -/
inductive Rr where
  | bad (n : Nat)
  | got (P : Pg)
def runP : List (List UInt8) → Pg → Nat → Rr
  | [], P, _ => .got P
  | s :: r, P, n => match takeP P n s with
    | none => .bad (n + 1)
    | some Q => runP r Q (n + 1)
def pg0 : Pg := ⟨0, [], []⟩
def readL (s : List UInt8) : Rr :=
  match runP (splitP 10 s).dropLast pg0 0 with
  | .bad n => .bad n
  | .got P => if (splitP 10 s).getLastD [] ≠ [] ∨ P.codes = [] then .bad (splitP 10 s).length else .got P
def pgLP (P : Pg) : List (List UInt8) := pgL P.g P.pool P.codes
theorem pgL_pool (g : Int) (pool : List ByteArray) (s : ByteArray) : pgL g (pool ++ [s]) [] = pgL g pool [] ++ [polW ++ quoted s.data.toList] := by simp [pgL]
theorem pgL_code (g : Int) (pool : List ByteArray) (cs : List Cd) (p l s d : Int) : pgL g pool (cs ++ [⟨p, l, s, d, []⟩]) = pgL g pool cs ++ [lnP codW [p, l, s, d]] := by simp [pgL, cdL]
theorem pgL_ins (g : Int) (pool : List ByteArray) (cs : List Cd) (c : Cd) (x : In) : pgL g pool (cs ++ [⟨c.p, c.l, c.s, c.d, c.ins ++ [x]⟩]) = pgL g pool (cs ++ [c]) ++ [insP x] := by simp [pgL, cdL]
theorem glo_clean : ∀ x ∈ gloW, x ≠ 32 := by decide
theorem cod_clean : ∀ x ∈ codW, x ≠ 32 := by decide
theorem take_once {P Q : Pg} {n : Nat} {s : List UInt8} (hn : n ≠ 0) (h : takeP P n s = some Q) : pgLP Q = pgLP P ++ [s] := by
  unfold takeP at h
  rw [if_neg hn] at h
  split at h
  · rename_i hc
    split at h
    · rename_i ht
      have e := Option.some.inj h
      subst e
      unfold pgLP
      simp only [hc.1]
      rw [pgL_pool]
      congr 2
      show polW ++ quoted (takeOut (s.drop 5)).1.toArray.toList = s
      rw [List.toList_toArray, ht.2.2, ← hc.2.2, List.take_append_drop]
    · cases h
  · cases hm : numsP s codW 4 with
    | some m =>
      rw [hm] at h
      have e := Option.some.inj h
      subst e
      obtain ⟨h1, h2, _⟩ := (nums_iff cod_clean).1 hm
      unfold pgLP
      rw [pgL_code]
      match m, h2, h1 with
      | [a, b, c, d], _, h1 => rw [h1]; rfl
    | none =>
      rw [hm] at h
      cases hl : P.codes.getLast? with
      | none => rw [hl] at h; cases h
      | some c =>
        rw [hl] at h
        cases hi : insR s with
        | none => simp only [hi] at h; cases h
        | some x =>
          simp only [hi] at h
          have e := Option.some.inj h
          subst e
          obtain ⟨h1, _⟩ := insR_iff.1 hi
          unfold pgLP
          simp only
          rw [pgL_ins, h1]
          congr 2
          obtain ⟨ys, hy⟩ := List.getLast?_eq_some_iff.1 hl
          rw [hy]; simp
theorem take_zero {Q : Pg} {s : List UInt8} (h : takeP pg0 0 s = some Q) : pgLP Q = [s] := by
  unfold takeP at h
  rw [if_pos rfl] at h
  cases hm : numsP s gloW 1 with
  | none => rw [hm] at h; cases h
  | some m =>
    rw [hm] at h
    have e := Option.some.inj h
    subst e
    obtain ⟨h1, h2, _⟩ := (nums_iff glo_clean).1 hm
    obtain ⟨a, rfl⟩ := List.length_eq_one_iff.1 h2
    rw [h1]; rfl
theorem run_once : ∀ {ls : List (List UInt8)} {P Q : Pg} {n : Nat}, n ≠ 0 → runP ls P n = .got Q → pgLP Q = pgLP P ++ ls
  | [], P, Q, n, _, h => by cases h; simp
  | s :: r, P, Q, n, hn, h => by
    rw [runP] at h
    cases ht : takeP P n s with
    | none => rw [ht] at h; cases h
    | some R =>
      rw [ht] at h
      rw [run_once (by omega) h, take_once hn ht]
      simp
theorem join_tx : ∀ ls : List (List UInt8), joinB 10 (ls ++ [[]]) = txL ls
  | [] => rfl
  | x :: r => by
    have ih := join_tx r
    cases r with
    | nil => simp [joinB, txL]
    | cons y t =>
      rw [List.cons_append, List.cons_append, joinB]
      rw [List.cons_append] at ih
      rw [ih]
      simp [txL]
theorem last_d {l : List (List UInt8)} (h : l ≠ []) : l.getLast h = l.getLastD [] := by
  cases l with
  | nil => exact absurd rfl h
  | cons a t => rfl
/-- a text that is read is written just so -/
theorem read_once {s : List UInt8} {P : Pg} (h : readL s = .got P) : txL (pgLP P) = s ∧ P.codes ≠ [] := by
  unfold readL at h
  have hj := join_split 10 s
  have hne := split_ne 10 s
  cases hr : runP (splitP 10 s).dropLast pg0 0 with
  | bad n => rw [hr] at h; cases h
  | got Q =>
    rw [hr] at h
    simp only at h
    split at h
    · cases h
    · rename_i hc
      cases h
      have hc1 : (splitP 10 s).getLastD [] = [] := Classical.byContradiction fun g => hc (.inl g)
      have hc2 : P.codes ≠ [] := fun g => hc (.inr g)
      refine ⟨?_, hc2⟩
      have hs : splitP 10 s = (splitP 10 s).dropLast ++ [[]] := by
        have e := List.dropLast_concat_getLast hne
        have : (splitP 10 s).getLast hne = [] := (last_d hne).trans hc1
        rw [this] at e
        exact e.symm
      rw [hs, join_tx] at hj
      rw [← hj]
      congr 1
      cases hd : (splitP 10 s).dropLast with
      | nil => rw [hd] at hr; cases hr; exact absurd rfl hc2
      | cons a r =>
        rw [hd, runP] at hr
        cases ht : takeP pg0 0 a with
        | none => rw [ht] at hr; cases hr
        | some R =>
          rw [ht] at hr
          rw [run_once (by decide) hr, take_zero ht]
          rfl

/-- a program all of whose numbers can be written -/
def okCd (c : Cd) : Prop := rngP c.p ∧ rngP c.l ∧ rngP c.s ∧ rngP c.d ∧ ∀ x ∈ c.ins, okX x
def okPg (P : Pg) : Prop := rngP P.g ∧ ∀ c ∈ P.codes, okCd c
theorem run_app : ∀ (a b : List (List UInt8)) (P Q : Pg) (n : Nat), runP a P n = .got Q → runP (a ++ b) P n = runP b Q (n + a.length)
  | [], b, P, Q, n, h => by cases h; rfl
  | s :: r, b, P, Q, n, h => by
    rw [runP] at h
    rw [List.cons_append, runP]
    cases ht : takeP P n s with
    | none => rw [ht] at h; cases h
    | some R =>
      rw [ht] at h
      simp only
      rw [run_app r b R Q (n + 1) h, List.length_cons, show n + 1 + r.length = n + (r.length + 1) by omega]
theorem pol_ins {x : In} (hx : okX x) : (insP x).take 5 ≠ polW := by
  intro e
  have h1 : splitP 32 ((insP x).take 5 ++ (insP x).drop 5) = splitP 32 (lnP (opW x.1) ([x.2.1, x.2.2].take (prtN x.1))) := by rw [List.take_append_drop]; rfl
  rw [e, split_ln (opW_clean (by decide) _)] at h1
  have h2 : splitP 32 (polW ++ (insP x).drop 5) = [112, 111, 111, 108] :: splitP 32 ((insP x).drop 5) := split_app (l := [112, 111, 111, 108]) _ (by decide)
  rw [h2] at h1
  have h3 := (List.cons.inj h1).1
  have : ∀ i : Fin 32, asmW.getD i.val [] ≠ [112, 111, 111, 108] := by decide
  unfold opW at h3
  rw [if_pos hx.1] at h3
  exact this ⟨(x.1 - 1).toNat, by have := hx.1; omega⟩ h3.symm
theorem run_ins : ∀ (xs : List In) (P : Pg) (cs : List Cd) (c : Cd) (n : Nat), n ≠ 0 → P.codes = cs ++ [c] → (∀ x ∈ xs, okX x) → runP (xs.map insP) P n = .got ⟨P.g, P.pool, cs ++ [⟨c.p, c.l, c.s, c.d, c.ins ++ xs⟩]⟩
  | [], P, cs, c, n, _, hP, _ => by
    obtain ⟨g, pool, codes⟩ := P
    simp only at hP
    subst hP
    simp [runP]
  | x :: r, P, cs, c, n, hn, hP, hx => by
    have hx0 := hx x (by simp)
    have ht : takeP P n (insP x) = some ⟨P.g, P.pool, cs ++ [⟨c.p, c.l, c.s, c.d, c.ins ++ [x]⟩]⟩ := by
      unfold takeP
      have hc : numsP (insP x) codW 4 = none := nums_none cod_clean fun ns e => by
        have := lnP_head (opW_clean (by decide) _) cod_clean e
        unfold opW at this
        rw [if_pos hx0.1] at this
        exact opW_code ⟨(x.1 - 1).toNat, by have := hx0.1; omega⟩ this
      rw [if_neg hn, if_neg (by rw [hP]; simp), hc, hP]
      simp only [List.getLast?_append, List.getLast?_singleton, Option.some_or, List.dropLast_concat]
      rw [insR_iff.2 ⟨rfl, hx0⟩]
    rw [List.map_cons, runP, ht]
    simp only
    have hrec := run_ins r ⟨P.g, P.pool, cs ++ [⟨c.p, c.l, c.s, c.d, c.ins ++ [x]⟩]⟩ cs (⟨c.p, c.l, c.s, c.d, c.ins ++ [x]⟩ : Cd) (n + 1) (by omega) rfl (fun y hy => hx y (by simp [hy]))
    rw [hrec]
    simp
theorem pol_code (ns : List Int) : (lnP codW ns).take 5 ≠ polW := by
  intro e
  have := congrArg (fun l => l.head?) e
  cases ns with
  | nil => simp [lnP, codW, polW] at this
  | cons n r => simp [lnP, codW, polW] at this
theorem run_codes : ∀ (ds : List Cd) (P : Pg) (n : Nat), n ≠ 0 → (∀ c ∈ ds, okCd c) → runP (ds.flatMap cdL) P n = .got ⟨P.g, P.pool, P.codes ++ ds⟩
  | [], P, n, _, _ => by simp [runP]
  | c :: r, P, n, hn, hc => by
    have hc0 := hc c (by simp)
    have h1 : runP (cdL c) P n = .got ⟨P.g, P.pool, P.codes ++ [c]⟩ := by
      have ht : takeP P n (lnP codW [c.p, c.l, c.s, c.d]) = some ⟨P.g, P.pool, P.codes ++ [⟨c.p, c.l, c.s, c.d, []⟩]⟩ := by
        unfold takeP
        have hm : numsP (lnP codW [c.p, c.l, c.s, c.d]) codW 4 = some [c.p, c.l, c.s, c.d] := (nums_iff cod_clean).2 ⟨rfl, rfl, fun m hm => by
          simp at hm
          rcases hm with rfl | rfl | rfl | rfl
          · exact hc0.1
          · exact hc0.2.1
          · exact hc0.2.2.1
          · exact hc0.2.2.2.1⟩
        rw [if_neg hn, if_neg (fun h => pol_code _ h.2.2), hm]
        rfl
      unfold cdL
      rw [runP, ht]
      simp only
      have hrec := run_ins c.ins ⟨P.g, P.pool, P.codes ++ [⟨c.p, c.l, c.s, c.d, []⟩]⟩ P.codes (⟨c.p, c.l, c.s, c.d, []⟩ : Cd) (n + 1) (by omega) rfl hc0.2.2.2.2
      rw [hrec]
      rfl
    rw [List.flatMap_cons, run_app _ _ _ _ _ h1, run_codes r _ _ (by omega) (fun d hd => hc d (by simp [hd]))]
    simp
theorem run_pool : ∀ (ss : List ByteArray) (P : Pg) (n : Nat), n ≠ 0 → P.codes = [] → runP (ss.map fun s => polW ++ quoted s.data.toList) P n = .got ⟨P.g, P.pool ++ ss, []⟩
  | [], P, n, _, hP => by
    obtain ⟨g, pool, codes⟩ := P
    simp only at hP
    subst hP
    simp [runP]
  | s :: r, P, n, hn, hP => by
    have hlen : 2 ≤ (quoted s.data.toList).length := by simp [quoted]
    have ht : takeP P n (polW ++ quoted s.data.toList) = some ⟨P.g, P.pool ++ [s], []⟩ := by
      unfold takeP
      have hd : (polW ++ quoted s.data.toList).drop 5 = quoted s.data.toList := rfl
      have hk : takeOut (quoted s.data.toList) = (s.data.toList, (quoted s.data.toList).length, 0) := by
        have := takeOut_quoted s.data.toList []
        rwa [List.append_nil] at this
      rw [if_neg hn, if_pos ⟨hP, by simp [polW]; omega, rfl⟩, hd, hk, if_pos ⟨rfl, by simp [polW], rfl⟩, hP]
    rw [List.map_cons, runP, ht]
    simp only
    rw [run_pool r ⟨P.g, P.pool ++ [s], []⟩ (n + 1) (by omega) rfl]
    simp
theorem lnP_no10 {w : List UInt8} (hw : ∀ x ∈ w, x ≠ 10) (ns : List Int) : ∀ x ∈ lnP w ns, x ≠ 10 := by
  intro x hx
  unfold lnP at hx
  rcases List.mem_append.1 hx with h | h
  · exact hw x h
  · obtain ⟨n, _, h⟩ := List.mem_flatMap.1 h
    rcases List.mem_cons.1 h with rfl | h
    · decide
    · exact digs_no (by decide) n x h
theorem pgL_no10 (P : Pg) : ∀ l ∈ pgLP P, ∀ x ∈ l, x ≠ 10 := by
  intro l hl
  unfold pgLP pgL at hl
  rcases List.mem_cons.1 hl with rfl | hl
  · exact lnP_no10 (by decide) _
  · rcases List.mem_append.1 hl with h | h
    · obtain ⟨s, _, rfl⟩ := List.mem_map.1 h
      intro x hx
      rcases List.mem_append.1 hx with h | h
      · have : ∀ x ∈ polW, x ≠ 10 := by decide
        exact this x h
      · intro e
        have := quoted_seen _ x h
        rw [e] at this
        exact absurd this.1 (by decide)
    · obtain ⟨c, _, h⟩ := List.mem_flatMap.1 h
      unfold cdL at h
      rcases List.mem_cons.1 h with rfl | h
      · exact lnP_no10 (by decide) _
      · obtain ⟨x, _, rfl⟩ := List.mem_map.1 h
        exact lnP_no10 (opW_clean (by decide) _) _
theorem split_tx : ∀ {ls : List (List UInt8)}, (∀ l ∈ ls, ∀ x ∈ l, x ≠ 10) → splitP 10 (txL ls) = ls ++ [[]]
  | [], _ => rfl
  | l :: r, h => by
    have e : txL (l :: r) = l ++ 10 :: txL r := by simp [txL]
    rw [e, split_app _ (h l (by simp)), split_tx (fun q hq => h q (by simp [hq]))]
    rfl
/-- a program comes back from its text -/
theorem read_back {P : Pg} (h : okPg P) (hc : P.codes ≠ []) : readL (txL (pgLP P)) = .got P := by
  unfold readL
  rw [split_tx (pgL_no10 P)]
  have hr : runP (pgLP P) pg0 0 = .got P := by
    unfold pgLP pgL
    have ht : takeP pg0 0 (lnP gloW [P.g]) = some ⟨P.g, [], []⟩ := by
      have hm : numsP (lnP gloW [P.g]) gloW 1 = some [P.g] := (nums_iff glo_clean).2 ⟨rfl, rfl, fun m hm => by rw [List.mem_singleton.1 hm]; exact h.1⟩
      unfold takeP
      rw [if_pos rfl, hm]
      rfl
    rw [runP, ht]
    simp only
    rw [run_app _ _ _ _ _ (run_pool P.pool ⟨P.g, [], []⟩ 1 (by decide) rfl), run_codes P.codes _ _ (by omega) h.2]
    simp
  rw [List.dropLast_concat, hr]
  simp only
  rw [if_neg (by simp [hc])]

end Go.Proofs.YtnojlfdojmkonaaGreatDoor
