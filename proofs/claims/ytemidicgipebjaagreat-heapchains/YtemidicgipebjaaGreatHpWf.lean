/- What holds of a heap holds behind each call. -/
import Derived.Test.YtemidicgipebjaaGreatHpPlain
import Derived.Test.YtemidicgipebjaaGreatShMove
namespace Go.Proofs.YtemidicgipebjaaGreat
set_option linter.unusedSimpArgs false
open Go.RowKit

theorem fewer : ∀ (n : Nat) (l : List Int), l.Nodup → (∀ x ∈ l, 1 ≤ x ∧ x ≤ n) → l.length ≤ n
  | 0, l, _, h => by
    cases l with
    | nil => simp
    | cons x r => have := h x (by simp); omega
  | n + 1, l, hd, h => by
    by_cases hm : ((n + 1 : Nat) : Int) ∈ l
    · have h1 := fewer n (l.erase ((n + 1 : Nat) : Int)) (hd.erase _) (fun x hx => by
        have h2 := h x (List.mem_of_mem_erase hx)
        have h3 : x ≠ ((n + 1 : Nat) : Int) := fun e => by
          subst e
          exact (List.Nodup.mem_erase_iff hd).1 hx |>.1 rfl
        omega)
      rw [List.length_erase_of_mem hm] at h1
      omega
    · have h1 := fewer n l hd (fun x hx => by
        have h2 := h x hx
        have h3 : x ≠ ((n + 1 : Nat) : Int) := fun e => hm (e ▸ hx)
        omega)
      omega
theorem upN_add (H : He) : ∀ (b a : Nat) (o : Int), upN H (a + b) o = upN H a (upN H b o)
  | 0, _, _ => rfl
  | b + 1, a, o => by
    show upN H (a + b + 1) o = _
    rw [upN, upN_add H b a]
    rfl
theorem protoH_out {H : He} {o : Int} (h : o < 1) : protoH H o = 0 := by unfold protoH; rw [getO_out (.inl h)]
theorem upN_low {H : He} : ∀ (k : Nat) {o : Int}, o < 1 → upN H k o < 1
  | 0, _, h => h
  | k + 1, o, h => by rw [upN, protoH_out h]; exact upN_low k (by omega)
theorem upN_more {H : He} {k m : Nat} {o : Int} (h : upN H k o < 1) (hm : k ≤ m) : upN H m o < 1 := by
  obtain ⟨j, rfl⟩ := Nat.le.dest hm
  rw [Nat.add_comm, upN_add]
  exact upN_low j h
theorem least_up {H : He} {o : Int} : ∀ (k : Nat), upN H k o < 1 → ∃ m, upN H m o < 1 ∧ ∀ j, j < m → ¬ upN H j o < 1
  | 0, h => ⟨0, h, fun j hj => absurd hj (Nat.not_lt_zero _)⟩
  | k + 1, h => by
    by_cases h1 : upN H k o < 1
    · exact least_up k h1
    · refine ⟨k + 1, h, fun j hj hj1 => h1 (upN_more hj1 (by omega))⟩
theorem protoH_le {K : Nat} {H : He} (h : WfH K H) (o : Int) : protoH H o ≤ H.os.length := by
  unfold protoH
  cases hg : getO H o with
  | none => exact Nat.zero_le _
  | some x => exact (h.at' hg).pr
/-- a chain has at most as many as there are objects -/
theorem WfH.within {K : Nat} {H : He} (h : WfH K H) (o : Int) : upN H (H.os.length + 1) o < 1 := by
  obtain ⟨k, hk⟩ := h.ends o
  obtain ⟨m, hm, hl⟩ := least_up k hk
  refine upN_more hm ?_
  have hd : ((List.range (m - 1)).map (fun i => upN H (i + 1) o)).Nodup := by
    unfold List.Nodup
    rw [List.pairwise_map]
    refine List.Pairwise.imp_of_mem ?_ List.pairwise_lt_range
    intro a b ha hb hab e
    have hb' := List.mem_range.1 hb
    have h1 : upN H (m - (b + 1) + (a + 1)) o < 1 := by
      rw [upN_add, e, ← upN_add, show m - (b + 1) + (b + 1) = m by omega]
      exact hm
    exact hl _ (by omega) h1
  have := fewer H.os.length _ hd (fun x hx => by
    obtain ⟨i, hi, rfl⟩ := List.mem_map.1 hx
    have hi' := List.mem_range.1 hi
    refine ⟨by have := hl (i + 1) (by omega); omega, ?_⟩
    rw [Nat.add_comm i 1, upN_add]
    show ((protoH H (upN H i o) : Nat) : Int) ≤ _
    have := protoH_le h (upN H i o)
    omega)
  simp at this
  omega
/-- how far it is to the end -/
def rankF (H : He) : Nat → Int → Nat
  | 0, _ => 0
  | n + 1, o => if o < 1 then 0 else rankF H n (protoH H o) + 1
theorem rankF_more {H : He} : ∀ (n : Nat) {o : Int}, upN H n o < 1 → rankF H (n + 1) o = rankF H n o
  | 0, o, h => by
    have : o < 1 := h
    show (if o < 1 then 0 else rankF H 0 (protoH H o) + 1) = 0
    rw [if_pos this]
  | n + 1, o, h => by
    show (if o < 1 then 0 else rankF H (n + 1) (protoH H o) + 1) = (if o < 1 then 0 else rankF H n (protoH H o) + 1)
    rw [rankF_more n (o := (protoH H o : Int)) h]
def rankH (H : He) (o : Int) : Nat := rankF H (H.os.length + 1) o
theorem rank_lt {K : Nat} {H : He} (h : WfH K H) {o : Int} (ho : 1 ≤ o) : rankH H (protoH H o) < rankH H o := by
  unfold rankH
  have h1 := rankF_more (H := H) (H.os.length + 1) (h.within o)
  rw [← h1]
  show rankF H (H.os.length + 1) (protoH H o) < (if o < 1 then 0 else rankF H (H.os.length + 1) (protoH H o) + 1)
  rw [if_neg (by omega)]
  exact Nat.lt_succ_self _
/-- fuel beyond the end -/
theorem getF_more {H : He} {s : ByteArray} : ∀ (n : Nat) {o : Int}, upN H n o < 1 → ∀ m, n ≤ m → getF H s m o = getF H s n o
  | 0, o, h, m, _ => by
    have h0 : o < 1 := h
    have : ∀ (m : Nat) (o : Int), o < 1 → getF H s m o = vl0 := by
      intro m
      induction m with
      | zero => intro o _; rfl
      | succ m ih =>
        intro o ho
        rw [getF, show ownH H o s = none by unfold ownH; rw [getO_out (.inl ho)]]
        exact ih _ (by rw [protoH_out ho]; omega)
    rw [this m o h0]
    rfl
  | n + 1, o, h, 0, hm => absurd hm (by omega)
  | n + 1, o, h, m + 1, hm => by
    show (match ownH H o s with | some v => v | none => getF H s m (protoH H o)) = (match ownH H o s with | some v => v | none => getF H s n (protoH H o))
    rw [getF_more n (o := (protoH H o : Int)) h m (by omega)]
theorem gotH_step {K : Nat} {H : He} (h : WfH K H) (o : Int) (s : ByteArray) : gotH H o s = match ownH H o s with | some v => v | none => gotH H (protoH H o) s := by
  unfold gotH
  rw [← getF_more (H.os.length + 1) (h.within o) (H.os.length + 1 + 1) (by omega)]
  show (match ownH H o s with | some v => v | none => getF H s (H.os.length + 1) (protoH H o)) = _
  cases ownH H o s <;> rfl
theorem gotH_low {H : He} {o : Int} (h : o < 1) (s : ByteArray) : gotH H o s = vl0 := by
  unfold gotH
  exact getF_more 0 h _ (Nat.zero_le _)
theorem onC_more {H : He} {q : Int} : ∀ (n : Nat) {o : Int}, upN H n o < 1 → ∀ m, n ≤ m → onC H q m o = onC H q n o
  | 0, o, h, m, _ => by
    have h0 : o < 1 := h
    cases m with
    | zero => rfl
    | succ m =>
      show (if o < 1 then false else if o = q then true else onC H q m (protoH H o)) = false
      rw [if_pos h0]
  | n + 1, o, h, 0, hm => absurd hm (by omega)
  | n + 1, o, h, m + 1, hm => by
    show (if o < 1 then false else if o = q then true else onC H q m (protoH H o)) = (if o < 1 then false else if o = q then true else onC H q n (protoH H o))
    rw [onC_more n (o := (protoH H o : Int)) h m (by omega)]
def onH (H : He) (q o : Int) : Bool := onC H q (H.os.length + 1) o
theorem onH_step {K : Nat} {H : He} (h : WfH K H) (q o : Int) : onH H q o = if o < 1 then false else if o = q then true else onH H q (protoH H o) := by
  unfold onH
  rw [← onC_more (H.os.length + 1) (h.within o) (H.os.length + 1 + 1) (by omega)]
  rfl

end Go.Proofs.YtemidicgipebjaaGreat
