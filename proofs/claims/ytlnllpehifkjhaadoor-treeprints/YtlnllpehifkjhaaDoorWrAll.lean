/- What the writer writes of any right node. -/
import Derived.Test.YtlnllpehifkjhaaDoorWrCall
import Derived.Test.YtlnllpehifkjhaaDoorWrStmt
import Derived.Test.YtlnllpehifkjhaaDoorNdRight2
import Derived.Test.YtlnllpehifkjhaaDoorTreeStmt
namespace Go.Proofs.YtlnllpehifkjhaaDoor
open Go.RowKit
set_option linter.unusedVariables false

theorem all_right {a : Nat} {ks : List Nd} (h : (!ks.any fun x => !rightN x a) = true) : ∀ x ∈ ks, rightN x a = true := by
  intro x hx
  simp only [Bool.not_eq_true', List.any_eq_false] at h
  have := h x hx
  simpa using this
theorem sign_len (o : Int) : (signT o).length ≤ 2 := by
  unfold signT
  split
  · simp
  · rw [List.getD_eq_getElem?_getD]
    cases h : tsgnL[o.toNat]? with
    | none => simp
    | some x =>
      have hx := List.mem_of_getElem? h
      have : ∀ y ∈ tsgnL, y.length ≤ 2 := by decide
      simpa using this x hx
theorem built_len (o : Int) : (builtT o).1.length ≤ 100 ∧ (0 < (builtT o).2 → (builtT o).1 ≠ []) := by
  unfold builtT
  split
  · simp
  · rw [List.getD_eq_getElem?_getD]
    cases h : builtL[o.toNat]? with
    | none => simp
    | some x =>
      have hx := List.mem_of_getElem? h
      have : ∀ y ∈ builtL, y.1.length ≤ 100 ∧ (0 < y.2 → y.1 ≠ []) := by decide
      simpa using this x hx
theorem name_ne {s : ByteArray} (h : nameB s.data.toList = true) : s.data.toList ≠ [] := by
  intro e; rw [e] at h; cases h
theorem proper_name {s : ByteArray} (h : properB s = true) : nameB s.data.toList = true := by
  unfold properB at h; rw [Bool.and_eq_true] at h; exact h.1
theorem digs_ne (n : Int) : digs n ≠ [] := by
  unfold digs
  split
  · simp
  · unfold dec; split <;> simp
theorem quoted_ne (l : List UInt8) : quoted l ≠ [] := by unfold quoted; simp
/-- one of a node's kids -/
theorem kid_fit {B : Nat} {w : World} {t off : Nat} {ks : List Nd} (hat : NdsAt B w t ks off) (i : Nat) (hi : i < ks.length) (r : Nat) (hr : rightN ks[i] r = true) (hs : ∀ x ∈ ks, smallN x = true) (hc : countL ks ≤ 1000000) :
    ∃ a1 q1 a2 q2, NodeAt t (off + i * 7) ks[i].kind ks[i].op ks[i].num ks[i].str (.slice a1 ks[i].names.length q1) (.slice a2 ks[i].kids.length q2) ks[i].pl w ∧ Fit B ks[i] (.slice a1 ks[i].names.length q1) (.slice a2 ks[i].kids.length q2) r w := by
  obtain ⟨nv, kv, hn, hin⟩ := ndsAt_get hat i hi
  obtain ⟨a1, q1, a2, q2, rfl, rfl⟩ := ndIn_shape hin
  have hm := List.getElem_mem hi
  exact ⟨a1, q1, a2, q2, hn, hin, hr, hs _ hm, Nat.le_trans (count_mem hm) hc⟩

theorem right_is_bare {k o n : Int} {s : ByteArray} {ns : List ByteArray} {ks : List Nd} {p : Int} {a : Nat} (h : rightN (.mk k o n s ns ks p) a = true) : bareB k o n s ns ks.length = true := by
  cases hq : bareB k o n s ns ks.length with
  | true => rfl
  | false => rw [right_bare hq] at h; cases h
theorem bare_num {k o n : Int} {s : ByteArray} {ns : List ByteArray} {c : Nat} (hk : hasNumK k = false) (h : bareB k o n s ns c = true) : n = 0 := by
  rw [bareB_eq, hk] at h
  simp only [Bool.and_eq_true, cond_false, decide_eq_true_eq] at h
  exact h.2.1

set_option maxHeartbeats 3200000 in
theorem wexpr_step (k o n : Int) (s : ByteArray) (ns : List ByteArray) (ks : List Nd) (p : Int) (ih : ∀ x ∈ ks, ExprW x ∧ StmtW x) : ExprW (.mk k o n s ns ks p) := by
  intro B b l w nv kv W O N hr hs hc hl
  obtain ⟨h600, h60, h100, hsk⟩ := small_mk hs
  obtain ⟨hS, hK⟩ := ndIn_mk.1 N.out
  obtain ⟨a1, q1, a2, q2, rfl, rfl⟩ := ndIn_shape N.out
  simp only [Nd.kind, Nd.op, Nd.num, Nd.str, Nd.pl, Nd.names, Nd.kids] at *
  have hcl : countL ks ≤ 1000000 := by simp only [countN] at hc; omega
  rw [textN_mk] at hl ⊢
  simp only at hl ⊢
  have hS' := hid hS
  have hK' := hid hK
  have h1M : s.size ≤ 1000000 := by omega
  have ihe : ∀ x ∈ ks, ExprW x := fun x hx => (ih x hx).1
  have ihs : ∀ x ∈ ks, StmtW x := fun x hx => (ih x hx).2
  clear hs hc N ih
  have hk : 1 ≤ k ∧ k ≤ 17 := by
    rcases Decidable.em (1 ≤ k ∧ k ≤ 17) with h | h
    · exact h
    · rw [rightN_mk, isK_not1 h] at hr; cases hr
  obtain ⟨hk1, hk2⟩ := hk
  rcases (show k = 1 ∨ k = 2 ∨ k = 3 ∨ k = 4 ∨ k = 5 ∨ k = 6 ∨ k = 7 ∨ k = 8 ∨ k = 9 ∨ k = 10 ∨ k = 11 ∨ k = 12 ∨ k = 13 ∨ k = 14 ∨ k = 15 ∨ k = 16 ∨ k = 17 from by omega) with rfl | rfl | rfl | rfl | rfl | rfl | rfl | rfl | rfl | rfl | rfl | rfl | rfl | rfl | rfl | rfl | rfl
  · clear hk1 hk2
    have e : exprT 1 o n s ns (ks.map textN) = wordT 1 n s := rfl
    rw [e] at hl ⊢
    have hn0 : n = 0 := bare_num (by decide) (right_is_bare hr)
    subst hn0
    exact wexpr_word 1 o 0 s a1 _ q1 a2 _ q2 p (by decide) (by decide) (by decide) h1M (by simp [wordT]) B b l w W O hl
  · clear hk1 hk2
    have e : exprT 2 o n s ns (ks.map textN) = wordT 2 n s := rfl
    rw [e] at hl ⊢
    rw [right2] at hr
    simp only [Bool.and_eq_true, Bool.or_eq_true, decide_eq_true_eq] at hr
    obtain ⟨hbare, hn⟩ := hr
    rcases hn with rfl | rfl
    · exact wexpr_word 2 o 0 s a1 _ q1 a2 _ q2 p (by decide) (by decide) (by decide) h1M (by simp [wordT]) B b l w W O hl
    · exact wexpr_word 2 o 1 s a1 _ q1 a2 _ q2 p (by decide) (by decide) (by decide) h1M (by simp [wordT]) B b l w W O hl
  · clear hk1 hk2
    have e : exprT 3 o n s ns (ks.map textN) = wordT 3 n s := rfl
    rw [e] at hl ⊢
    rw [right3] at hr
    simp only [Bool.and_eq_true, decide_eq_true_eq] at hr
    obtain ⟨hbare, hn1, hn2⟩ := hr
    exact wexpr_word 3 o n s a1 _ q1 a2 _ q2 p (by decide) (by omega) (by omega) h1M (digs_ne n) B b l w W O hl
  · clear hk1 hk2
    have e : exprT 4 o n s ns (ks.map textN) = wordT 4 n s := rfl
    rw [e] at hl ⊢
    have hn0 : n = 0 := bare_num (by decide) (right_is_bare hr)
    subst hn0
    exact wexpr_word 4 o 0 s a1 _ q1 a2 _ q2 p (by decide) (by decide) (by decide) h1M (quoted_ne _) B b l w W O hl
  · clear hk1 hk2
    have e : exprT 5 o n s ns (ks.map textN) = wordT 5 n s := rfl
    rw [e] at hl ⊢
    have hn0 : n = 0 := bare_num (by decide) (right_is_bare hr)
    subst hn0
    rw [right5, Bool.and_eq_true] at hr
    exact wexpr_word 5 o 0 s a1 _ q1 a2 _ q2 p (by decide) (by decide) (by decide) h1M (name_ne (proper_name hr.2)) B b l w W O hl
  · clear hk1 hk2
    have e : exprT 6 o n s ns (ks.map textN) = wordT 6 n s := rfl
    rw [e] at hl ⊢
    have hn0 : n = 0 := bare_num (by decide) (right_is_bare hr)
    subst hn0
    exact wexpr_word 6 o 0 s a1 _ q1 a2 _ q2 p (by decide) (by decide) (by decide) h1M (by simp [wordT]) B b l w W O hl
  · clear hk1 hk2
    rw [right7] at hr
    simp only [Bool.and_eq_true, decide_eq_true_eq] at hr
    obtain ⟨hbare, hnk, ⟨hn40, hnm⟩, hk40, hall⟩ := hr
    have har := all_right hall
    have e : exprT 7 o n s ns (ks.map textN) = objT ns (ks.map textN) := rfl
    rw [e] at hl ⊢
    exact wexpr7 o n s ns ks p a1 q1 a2 q2 ihe har hsk hcl hnk (fun z hz => List.all_eq_true.1 hnm z hz) h100 B b l w W O hS' hK' hl
  · clear hk1 hk2
    rw [right8] at hr
    simp only [Bool.and_eq_true, decide_eq_true_eq] at hr
    obtain ⟨hbare, ⟨hn6, hnm⟩, hk40, hall⟩ := hr
    have har := all_right hall
    have e : exprT 8 o n s ns (ks.map textN) = [102, 110, 40] ++ (joinT ns ++ ([41, 32] ++ blockT (ks.map textN))) := rfl
    rw [e] at hl ⊢
    exact wexpr8 o n s ns ks p a1 q1 a2 q2 ihs har hsk hcl h60 B b l w W O hS' hK' hl
  · clear hk1 hk2
    rw [right9] at hr
    simp only [Bool.and_eq_true, Bool.or_eq_true, decide_eq_true_eq] at hr
    obtain ⟨hbare, ho, hlen, hall⟩ := hr
    have har := all_right hall
    obtain ⟨x, rfl⟩ := List.length_eq_one_iff.1 hlen
    obtain ⟨t, off, rfl, htB, hat⟩ := kids_at hK (by simp)
    obtain ⟨xa1, xq1, xa2, xq2, Kx, Fx⟩ := kid_fit hat 0 (by simp) 1 (har _ (by simp)) hsk hcl
    rcases ho with rfl | rfl
    · exact wexpr9neg n s a1 _ q1 t off q2 p x (ihe x (by simp)) xa1 xq1 xa2 xq2 B b l w W O htB (hid (by simpa using Kx)) (hid Fx) hl
    · exact wexpr9not n s a1 _ q1 t off q2 p x (ihe x (by simp)) xa1 xq1 xa2 xq2 B b l w W O htB (hid (by simpa using Kx)) (hid Fx) hl
  · clear hk1 hk2
    rw [right10] at hr
    simp only [Bool.and_eq_true, decide_eq_true_eq] at hr
    obtain ⟨hbare, hsg, hlen, hall⟩ := hr
    have har := all_right hall
    obtain ⟨x, y, rfl⟩ := list_two hlen
    obtain ⟨t, off, rfl, htB, hat⟩ := kids_at hK (by simp)
    obtain ⟨xa1, xq1, xa2, xq2, Kx, Fx⟩ := kid_fit hat 0 (by simp) 1 (har _ (by simp)) hsk hcl
    obtain ⟨ya1, yq1, ya2, yq2, Ky, Fy⟩ := kid_fit hat 1 (by simp) 1 (har _ (by simp)) hsk hcl
    exact wexpr10 o n s a1 _ q1 t off q2 p (signT o) rfl (by simpa using hsg) (sign_len o) x (ihe x (by simp)) xa1 xq1 xa2 xq2 y (ihe y (by simp)) ya1 yq1 ya2 yq2 B b l w W O htB (hid (by simpa using Kx)) (hid Fx) (hid (by simpa using Ky)) (hid Fy) hl
  · clear hk1 hk2
    rw [right11] at hr
    simp only [Bool.and_eq_true, decide_eq_true_eq] at hr
    obtain ⟨hbare, hlen, hall⟩ := hr
    have har := all_right hall
    obtain ⟨x, y, rfl⟩ := list_two hlen
    obtain ⟨t, off, rfl, htB, hat⟩ := kids_at hK (by simp)
    obtain ⟨xa1, xq1, xa2, xq2, Kx, Fx⟩ := kid_fit hat 0 (by simp) 1 (har _ (by simp)) hsk hcl
    obtain ⟨ya1, yq1, ya2, yq2, Ky, Fy⟩ := kid_fit hat 1 (by simp) 1 (har _ (by simp)) hsk hcl
    exact wexpr11 o n s a1 _ q1 t off q2 p x (ihe x (by simp)) xa1 xq1 xa2 xq2 y (ihe y (by simp)) ya1 yq1 ya2 yq2 B b l w W O htB (hid (by simpa using Kx)) (hid Fx) (hid (by simpa using Ky)) (hid Fy) hl
  · clear hk1 hk2
    rw [right12] at hr
    simp only [Bool.and_eq_true, decide_eq_true_eq] at hr
    obtain ⟨hbare, hlen, hall⟩ := hr
    have har := all_right hall
    obtain ⟨x, y, rfl⟩ := list_two hlen
    obtain ⟨t, off, rfl, htB, hat⟩ := kids_at hK (by simp)
    obtain ⟨xa1, xq1, xa2, xq2, Kx, Fx⟩ := kid_fit hat 0 (by simp) 1 (har _ (by simp)) hsk hcl
    obtain ⟨ya1, yq1, ya2, yq2, Ky, Fy⟩ := kid_fit hat 1 (by simp) 1 (har _ (by simp)) hsk hcl
    exact wexpr12 o n s a1 _ q1 t off q2 p x (ihe x (by simp)) xa1 xq1 xa2 xq2 y (ihe y (by simp)) ya1 yq1 ya2 yq2 B b l w W O htB (hid (by simpa using Kx)) (hid Fx) (hid (by simpa using Ky)) (hid Fy) hl
  · clear hk1 hk2
    rw [right13] at hr
    simp only [Bool.and_eq_true, decide_eq_true_eq] at hr
    obtain ⟨hbare, hnm, hlen, hall⟩ := hr
    have har := all_right hall
    obtain ⟨x, rfl⟩ := List.length_eq_one_iff.1 hlen
    obtain ⟨t, off, rfl, htB, hat⟩ := kids_at hK (by simp)
    obtain ⟨xa1, xq1, xa2, xq2, Kx, Fx⟩ := kid_fit hat 0 (by simp) 1 (har _ (by simp)) hsk hcl
    exact wexpr13 o n s a1 _ q1 t off q2 p (name_ne hnm) h1M x (ihe x (by simp)) xa1 xq1 xa2 xq2 B b l w W O htB (hid (by simpa using Kx)) (hid Fx) hl
  · clear hk1 hk2
    rw [right14] at hr
    simp only [Bool.and_eq_true, decide_eq_true_eq] at hr
    obtain ⟨hbare, hlen, hall⟩ := hr
    have har := all_right hall
    obtain ⟨x, y, rfl⟩ := list_two hlen
    obtain ⟨t, off, rfl, htB, hat⟩ := kids_at hK (by simp)
    obtain ⟨xa1, xq1, xa2, xq2, Kx, Fx⟩ := kid_fit hat 0 (by simp) 1 (har _ (by simp)) hsk hcl
    obtain ⟨ya1, yq1, ya2, yq2, Ky, Fy⟩ := kid_fit hat 1 (by simp) 1 (har _ (by simp)) hsk hcl
    exact wexpr14 o n s a1 _ q1 t off q2 p x (ihe x (by simp)) xa1 xq1 xa2 xq2 y (ihe y (by simp)) ya1 yq1 ya2 yq2 B b l w W O htB (hid (by simpa using Kx)) (hid Fx) (hid (by simpa using Ky)) (hid Fy) hl
  · clear hk1 hk2
    rw [right15] at hr
    simp only [Bool.and_eq_true, decide_eq_true_eq] at hr
    obtain ⟨hbare, hlen, hall⟩ := hr
    have har := all_right hall
    obtain ⟨x, r, rfl⟩ : ∃ x r, ks = x :: r := by
      cases ks with
      | nil => simp at hlen
      | cons x r => exact ⟨x, r, rfl⟩
    have hcap := (kidsIn_cap hK).resolve_left (by simp)
    obtain ⟨t, off, rfl, htB, hat⟩ := kids_at hK (by simp)
    obtain ⟨xa1, xq1, xa2, xq2, Kx, Fx⟩ := kid_fit hat 0 (by simp) 1 (har _ (by simp)) hsk hcl
    have hcr : countL r ≤ 1000000 := by simp only [countL] at hcl; omega
    have e : exprT 15 o n s ns ((x :: r).map textN) = tightT (textN x) (if x.kind = 13 then 9 else 8) ++ argsT (r.map textN) := by
      show tightT (textN x) (if (textN x).kind = 13 then 9 else 8) ++ argsT (r.map textN) = _
      rw [textN_kind]
    rw [e] at hl ⊢
    exact wexpr15 o n s a1 _ q1 t off q2 p _ x rfl (ihe x (by simp)) xa1 xq1 xa2 xq2 r (fun z hz => ihe z (by simp [hz])) (fun z hz => har z (by simp [hz])) (fun z hz => hsk z (by simp [hz])) hcr (by simpa using hcap) B b l w W O htB (hid hat) (hid (by simpa using Kx)) (hid Fx) hl
  · clear hk1 hk2
    rw [right16] at hr
    simp only [Bool.and_eq_true, decide_eq_true_eq] at hr
    obtain ⟨hbare, hnm, hlen, hall⟩ := hr
    have har := all_right hall
    obtain ⟨x, r, rfl⟩ : ∃ x r, ks = x :: r := by
      cases ks with
      | nil => simp at hlen
      | cons x r => exact ⟨x, r, rfl⟩
    have hcap := (kidsIn_cap hK).resolve_left (by simp)
    obtain ⟨t, off, rfl, htB, hat⟩ := kids_at hK (by simp)
    obtain ⟨xa1, xq1, xa2, xq2, Kx, Fx⟩ := kid_fit hat 0 (by simp) 1 (har _ (by simp)) hsk hcl
    have hcr : countL r ≤ 1000000 := by simp only [countL] at hcl; omega
    exact wexpr16 o n s a1 _ q1 t off q2 p (name_ne hnm) h1M x (ihe x (by simp)) xa1 xq1 xa2 xq2 r (fun z hz => ihe z (by simp [hz])) (fun z hz => har z (by simp [hz])) (fun z hz => hsk z (by simp [hz])) hcr (by simpa using hcap) B b l w W O htB (hid hat) (hid (by simpa using Kx)) (hid Fx) hl
  · clear hk1 hk2
    rw [right17] at hr
    simp only [Bool.and_eq_true, decide_eq_true_eq] at hr
    obtain ⟨hbare, hbp, hlen, hall⟩ := hr
    have har := all_right hall
    exact wexpr17 o n s ns ks p a1 q1 a2 q2 ihe har hsk hcl (builtT o).1 (builtT o).2 rfl ((built_len o).2 hbp) (built_len o).1 B b l w W O hS' hK' hl

theorem textN_has (x : Nd) : (textN x).has = !x.kids.isEmpty := by cases x; rw [textN_mk]; rfl
theorem textN_b (x : Nd) : (textN x).b = blockT (x.kids.map textN) := by cases x; rw [textN_mk]; rfl
theorem block_kids {y : Nd} (h : rightN y 3 = true) : ∀ q ∈ y.kids, rightN q 2 = true := by
  obtain ⟨k, o, n, s, ns, ks, p⟩ := y
  have hk : k = 29 := by
    rcases Decidable.em (k = 29) with e | e
    · exact e
    · rw [rightN_mk, isK_not3 e] at h; cases h
  subst hk
  rw [right29] at h
  simp only [Bool.and_eq_true, decide_eq_true_eq] at h
  exact all_right h.2.2

set_option maxHeartbeats 3200000 in
theorem wstmt_step (k o n : Int) (s : ByteArray) (ns : List ByteArray) (ks : List Nd) (p : Int) (ih : ∀ x ∈ ks, ExprW x ∧ StmtW x) (ihk : ∀ x ∈ ks, ∀ q ∈ x.kids, StmtW q) : StmtW (.mk k o n s ns ks p) := by
  intro B b l w nv kv W O N hr hs hc hl
  obtain ⟨h600, h60, h100, hsk⟩ := small_mk hs
  obtain ⟨hS, hK⟩ := ndIn_mk.1 N.out
  obtain ⟨a1, q1, a2, q2, rfl, rfl⟩ := ndIn_shape N.out
  simp only [Nd.kind, Nd.op, Nd.num, Nd.str, Nd.pl, Nd.names, Nd.kids] at *
  have hcl : countL ks ≤ 1000000 := by simp only [countN] at hc; omega
  rw [textN_mk] at hl ⊢
  simp only at hl ⊢
  have hS' := hid hS
  have hK' := hid hK
  have h1M : s.size ≤ 1000000 := by omega
  have ihe : ∀ x ∈ ks, ExprW x := fun x hx => (ih x hx).1
  have ihs : ∀ x ∈ ks, StmtW x := fun x hx => (ih x hx).2
  clear hs hc N ih
  have hk : (21 ≤ k ∧ k ≤ 32) ∧ k ≠ 29 := by
    rcases Decidable.em ((21 ≤ k ∧ k ≤ 32) ∧ k ≠ 29) with h | h
    · exact h
    · rw [rightN_mk, isK_not2 (by omega)] at hr; cases hr
  obtain ⟨⟨hk1, hk2⟩, hk3⟩ := hk
  rcases (show k = 21 ∨ k = 22 ∨ k = 23 ∨ k = 24 ∨ k = 25 ∨ k = 26 ∨ k = 27 ∨ k = 28 ∨ k = 30 ∨ k = 31 ∨ k = 32 from by omega) with rfl | rfl | rfl | rfl | rfl | rfl | rfl | rfl | rfl | rfl | rfl
  · clear hk1 hk2 hk3
    rw [right21] at hr
    simp only [Bool.and_eq_true, decide_eq_true_eq] at hr
    obtain ⟨hbare, hnm, hlen, hall⟩ := hr
    have har := all_right hall
    obtain ⟨x, rfl⟩ := List.length_eq_one_iff.1 hlen
    obtain ⟨t, off, rfl, htB, hat⟩ := kids_at hK (by simp)
    obtain ⟨xa1, xq1, xa2, xq2, Kx, Fx⟩ := kid_fit hat 0 (by simp) 1 (har _ (by simp)) hsk hcl
    exact stmt21 o n s a1 _ q1 t off q2 p (name_ne (proper_name hnm)) h1M x (ihe x (by simp)) xa1 xq1 xa2 xq2 B b l w W O htB (hid (by simpa using Kx)) (hid Fx) hl
  · clear hk1 hk2 hk3
    rw [right22] at hr
    simp only [Bool.and_eq_true, decide_eq_true_eq] at hr
    obtain ⟨hbare, hnm, hlen, hall⟩ := hr
    have har := all_right hall
    obtain ⟨x, rfl⟩ := List.length_eq_one_iff.1 hlen
    obtain ⟨t, off, rfl, htB, hat⟩ := kids_at hK (by simp)
    obtain ⟨xa1, xq1, xa2, xq2, Kx, Fx⟩ := kid_fit hat 0 (by simp) 1 (har _ (by simp)) hsk hcl
    exact stmt22 o n s a1 _ q1 t off q2 p (name_ne (proper_name hnm)) h1M x (ihe x (by simp)) xa1 xq1 xa2 xq2 B b l w W O htB (hid (by simpa using Kx)) (hid Fx) hl
  · clear hk1 hk2 hk3
    rw [right23] at hr
    simp only [Bool.and_eq_true, decide_eq_true_eq] at hr
    obtain ⟨hbare, hnm, hlen, hall⟩ := hr
    have har := all_right hall
    obtain ⟨x, y, rfl⟩ := list_two hlen
    obtain ⟨t, off, rfl, htB, hat⟩ := kids_at hK (by simp)
    obtain ⟨xa1, xq1, xa2, xq2, Kx, Fx⟩ := kid_fit hat 0 (by simp) 1 (har _ (by simp)) hsk hcl
    obtain ⟨ya1, yq1, ya2, yq2, Ky, Fy⟩ := kid_fit hat 1 (by simp) 1 (har _ (by simp)) hsk hcl
    exact stmt23 o n s a1 _ q1 t off q2 p (name_ne hnm) h1M x (ihe x (by simp)) xa1 xq1 xa2 xq2 y (ihe y (by simp)) ya1 yq1 ya2 yq2 B b l w W O htB (hid (by simpa using Kx)) (hid Fx) (hid (by simpa using Ky)) (hid Fy) hl
  · clear hk1 hk2 hk3
    rw [right24] at hr
    simp only [Bool.and_eq_true, decide_eq_true_eq] at hr
    obtain ⟨hbare, hlen, hall⟩ := hr
    have har := all_right hall
    obtain ⟨x, y, z, rfl⟩ := list_three hlen
    obtain ⟨t, off, rfl, htB, hat⟩ := kids_at hK (by simp)
    obtain ⟨xa1, xq1, xa2, xq2, Kx, Fx⟩ := kid_fit hat 0 (by simp) 1 (har _ (by simp)) hsk hcl
    obtain ⟨ya1, yq1, ya2, yq2, Ky, Fy⟩ := kid_fit hat 1 (by simp) 1 (har _ (by simp)) hsk hcl
    obtain ⟨za1, zq1, za2, zq2, Kz, Fz⟩ := kid_fit hat 2 (by simp) 1 (har _ (by simp)) hsk hcl
    exact stmt24 o n s a1 _ q1 t off q2 p x (ihe x (by simp)) xa1 xq1 xa2 xq2 y (ihe y (by simp)) ya1 yq1 ya2 yq2 z (ihe z (by simp)) za1 zq1 za2 zq2 B b l w W O htB (hid (by simpa using Kx)) (hid Fx) (hid (by simpa using Ky)) (hid Fy) (hid (by simpa using Kz)) (hid Fz) hl
  · clear hk1 hk2 hk3
    rw [right25] at hr
    simp only [Bool.and_eq_true, decide_eq_true_eq] at hr
    obtain ⟨hbare, hnm, hlen, hall⟩ := hr
    have har := all_right hall
    obtain ⟨x, rfl⟩ := List.length_eq_one_iff.1 hlen
    obtain ⟨t, off, rfl, htB, hat⟩ := kids_at hK (by simp)
    obtain ⟨xa1, xq1, xa2, xq2, Kx, Fx⟩ := kid_fit hat 0 (by simp) 1 (har _ (by simp)) hsk hcl
    exact stmt25 o n s a1 _ q1 t off q2 p (name_ne hnm) h1M x (ihe x (by simp)) xa1 xq1 xa2 xq2 B b l w W O htB (hid (by simpa using Kx)) (hid Fx) hl
  · clear hk1 hk2 hk3
    rw [right26] at hr
    simp only [Bool.and_eq_true, decide_eq_true_eq] at hr
    obtain ⟨hbare, hlen, hall⟩ := hr
    have har := all_right hall
    obtain ⟨x, y, rfl⟩ := list_two hlen
    obtain ⟨t, off, rfl, htB, hat⟩ := kids_at hK (by simp)
    obtain ⟨xa1, xq1, xa2, xq2, Kx, Fx⟩ := kid_fit hat 0 (by simp) 1 (har _ (by simp)) hsk hcl
    obtain ⟨ya1, yq1, ya2, yq2, Ky, Fy⟩ := kid_fit hat 1 (by simp) 1 (har _ (by simp)) hsk hcl
    exact stmt26 o n s a1 _ q1 t off q2 p x (ihe x (by simp)) xa1 xq1 xa2 xq2 y (ihe y (by simp)) ya1 yq1 ya2 yq2 B b l w W O htB (hid (by simpa using Kx)) (hid Fx) (hid (by simpa using Ky)) (hid Fy) hl
  · clear hk1 hk2 hk3
    rw [right27] at hr
    simp only [Bool.and_eq_true, decide_eq_true_eq] at hr
    obtain ⟨hbare, hlen, hall⟩ := hr
    have har := all_right hall
    obtain ⟨x, rfl⟩ := List.length_eq_one_iff.1 hlen
    obtain ⟨t, off, rfl, htB, hat⟩ := kids_at hK (by simp)
    obtain ⟨xa1, xq1, xa2, xq2, Kx, Fx⟩ := kid_fit hat 0 (by simp) 1 (har _ (by simp)) hsk hcl
    exact stmt27 o n s a1 _ q1 t off q2 p x (ihe x (by simp)) xa1 xq1 xa2 xq2 B b l w W O htB (hid (by simpa using Kx)) (hid Fx) hl
  · clear hk1 hk2 hk3
    have hlen : ks.length = 3 := by
      rcases Decidable.em (ks.length = 3) with h | h
      · exact h
      · rw [right28_no h] at hr; cases hr
    obtain ⟨x, y, z, rfl⟩ := list_three hlen
    rw [right28] at hr
    simp only [Bool.and_eq_true] at hr
    obtain ⟨hbare, hr1, hr2, hr3⟩ := hr
    obtain ⟨t, off, rfl, htB, hat⟩ := kids_at hK (by simp)
    obtain ⟨xa1, xq1, xa2, xq2, Kx, Fx⟩ := kid_fit hat 0 (by simp) 1 hr1 hsk hcl
    obtain ⟨ya1, yq1, ya2, yq2, Ky, Fy⟩ := kid_fit hat 1 (by simp) 3 hr2 hsk hcl
    obtain ⟨za1, zq1, za2, zq2, Kz, Fz⟩ := kid_fit hat 2 (by simp) 3 hr3 hsk hcl
    by_cases hz0 : z.kids.length = 0
    · have e : stmtT 28 s ([x, y, z].map textN) = branchT [105, 102] (textN x) (textN y) := by
        have hh : (textN z).has = false := by rw [textN_has, List.isEmpty_iff.2 (List.length_eq_zero_iff.1 hz0)]; rfl
        show branchT [105, 102] (textN x) (textN y) ++ (if (textN z).has then _ else []) = _
        rw [hh]; simp
      rw [e] at hl ⊢
      exact stmt28a o n s a1 _ q1 t off q2 p x (ihe x (by simp)) xa1 xq1 xa2 xq2 y (ihk y (by simp)) (block_kids hr2) ya1 yq1 ya2 yq2 z (ihk z (by simp)) (block_kids hr3) za1 zq1 za2 zq2 B b l w W O htB (hid (by simpa using Kx)) (hid Fx) (hid (by simpa using Ky)) (hid Fy) (hid (by simpa using Kz)) (hid Fz) hz0 hl
    · have e : stmtT 28 s ([x, y, z].map textN) = branchT [105, 102] (textN x) (textN y) ++ ([32, 101, 108, 115, 101, 32] ++ blockT (z.kids.map textN)) := by
        have hh : (textN z).has = true := by
          rw [textN_has]
          cases hq : z.kids with
          | nil => rw [hq] at hz0; exact absurd rfl hz0
          | cons a c => rfl
        show branchT [105, 102] (textN x) (textN y) ++ (if (textN z).has then [32, 101, 108, 115, 101, 32] ++ (textN z).b else []) = _
        rw [hh, if_pos rfl, textN_b]
      rw [e] at hl ⊢
      exact stmt28b o n s a1 _ q1 t off q2 p x (ihe x (by simp)) xa1 xq1 xa2 xq2 y (ihk y (by simp)) (block_kids hr2) ya1 yq1 ya2 yq2 z (ihk z (by simp)) (block_kids hr3) za1 zq1 za2 zq2 B b l w W O htB (hid (by simpa using Kx)) (hid Fx) (hid (by simpa using Ky)) (hid Fy) (hid (by simpa using Kz)) (hid Fz) (by omega) hl
  · clear hk1 hk2 hk3
    have hlen : ks.length = 2 := by
      rcases Decidable.em (ks.length = 2) with h | h
      · exact h
      · rw [right30_no h] at hr; cases hr
    obtain ⟨x, y, rfl⟩ := list_two hlen
    rw [right30] at hr
    simp only [Bool.and_eq_true] at hr
    obtain ⟨hbare, hr1, hr2⟩ := hr
    obtain ⟨t, off, rfl, htB, hat⟩ := kids_at hK (by simp)
    obtain ⟨xa1, xq1, xa2, xq2, Kx, Fx⟩ := kid_fit hat 0 (by simp) 1 hr1 hsk hcl
    obtain ⟨ya1, yq1, ya2, yq2, Ky, Fy⟩ := kid_fit hat 1 (by simp) 3 hr2 hsk hcl
    exact stmt30 o n s a1 _ q1 t off q2 p x (ihe x (by simp)) xa1 xq1 xa2 xq2 y (ihk y (by simp)) (block_kids hr2) ya1 yq1 ya2 yq2 B b l w W O htB (hid (by simpa using Kx)) (hid Fx) (hid (by simpa using Ky)) (hid Fy) hl
  · clear hk1 hk2 hk3
    rw [right31] at hr
    simp only [Bool.and_eq_true, decide_eq_true_eq] at hr
    obtain ⟨hbare, hlen, hall⟩ := hr
    have har := all_right hall
    obtain ⟨x, rfl⟩ := List.length_eq_one_iff.1 hlen
    obtain ⟨t, off, rfl, htB, hat⟩ := kids_at hK (by simp)
    obtain ⟨xa1, xq1, xa2, xq2, Kx, Fx⟩ := kid_fit hat 0 (by simp) 1 (har _ (by simp)) hsk hcl
    exact stmt31 o n s a1 _ q1 t off q2 p x (ihe x (by simp)) xa1 xq1 xa2 xq2 B b l w W O htB (hid (by simpa using Kx)) (hid Fx) hl
  · clear hk1 hk2 hk3
    rw [right32] at hr
    simp only [Bool.and_eq_true, decide_eq_true_eq] at hr
    obtain ⟨hbare, hlen, hall⟩ := hr
    have har := all_right hall
    obtain ⟨x, rfl⟩ := List.length_eq_one_iff.1 hlen
    obtain ⟨t, off, rfl, htB, hat⟩ := kids_at hK (by simp)
    obtain ⟨xa1, xq1, xa2, xq2, Kx, Fx⟩ := kid_fit hat 0 (by simp) 1 (har _ (by simp)) hsk hcl
    exact stmt32 o n s a1 _ q1 t off q2 p x (ihe x (by simp)) xa1 xq1 xa2 xq2 B b l w W O htB (hid (by simpa using Kx)) (hid Fx) hl

/-- all that is below a node -/
theorem writes (x : Nd) : (ExprW x ∧ StmtW x) ∧ ∀ q ∈ x.kids, StmtW q := by
  refine Nd.ind (P := fun x => (ExprW x ∧ StmtW x) ∧ ∀ q ∈ x.kids, StmtW q) ?_ x
  intro k o n s ns ks p ih
  refine ⟨⟨wexpr_step k o n s ns ks p (fun x hx => (ih x hx).1), wstmt_step k o n s ns ks p (fun x hx => (ih x hx).1) (fun x hx => (ih x hx).2)⟩, ?_⟩
  intro q hq
  exact (ih q hq).1.2

end Go.Proofs.YtlnllpehifkjhaaDoor
