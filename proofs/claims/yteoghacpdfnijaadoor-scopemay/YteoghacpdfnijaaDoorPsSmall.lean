/- Right trees have short texts. -/
import Derived.Test.YteoghacpdfnijaaDoorNdFew
import Derived.Test.YteoghacpdfnijaaDoorNdRight
namespace Go.Proofs.YteoghacpdfnijaaDoor
open Go.RowKit

theorem name_short {s : ByteArray} (h : nameB s.data.toList = true) : s.size ≤ 100 := by
  rw [← list_size]
  generalize s.data.toList = l at *
  cases l with
  | nil => simp [nameB] at h
  | cons c r => simp [nameB] at h; simp; omega
theorem proper_name {s : ByteArray} (h : properB s = true) : nameB s.data.toList = true := by
  unfold properB at h
  simp at h
  exact h.1
theorem str_small {k : Int} {s : ByteArray} (h : strOk k s = true) : s.size ≤ 600 := by
  unfold strOk at h
  split at h
  · have := of_decide_eq_true h; omega
  · split at h
    · have := name_short (proper_name h); omega
    · split at h
      · have := name_short (show nameB s.data.toList = true from h); omega
      · have := of_decide_eq_true h; omega
theorem ns_small {k : Int} {ns : List ByteArray} (h : nsOk k ns = true) : ns.length ≤ 60 ∧ longB ns = false := by
  have key : (∀ s ∈ ns, nameB s.data.toList = true) → longB ns = false := by
    intro hn
    unfold longB
    rw [List.any_eq_false]
    intro x hx
    have := name_short (hn x hx)
    simp; omega
  unfold nsOk at h
  split at h
  · rw [Bool.and_eq_true, decide_eq_true_iff, List.all_eq_true] at h
    exact ⟨by omega, key fun s hs => h.2 s hs⟩
  · split at h
    · rw [Bool.and_eq_true, decide_eq_true_iff, List.all_eq_true] at h
      exact ⟨by omega, key fun s hs => proper_name (h.2 s hs)⟩
    · rw [decide_eq_true_iff] at h
      have : ns = [] := List.length_eq_zero_iff.1 h
      subst this
      exact ⟨by simp, rfl⟩
theorem rightL_each {k : Int} : ∀ {ks : List Nd} {i : Nat}, rightL ks k i = true → ∀ x ∈ ks, ∃ a, rightN x a = true
  | [], _, _ => by simp
  | y :: r, i, h => by
    rw [rightL, Bool.and_eq_true] at h
    intro x hx
    rcases List.mem_cons.1 hx with rfl | hx
    · exact ⟨_, h.1⟩
    · exact rightL_each h.2 x hx
theorem smallL_all : ∀ {ks : List Nd}, (∀ x ∈ ks, smallN x = true) → smallL ks = true
  | [], _ => by rw [smallL]
  | x :: r, h => by rw [smallL, h x (by simp), smallL_all (fun y hy => h y (by simp [hy]))]; rfl
theorem small_right {t : Nd} : ∀ {a : Nat}, rightN t a = true → smallN t = true := by
  refine Nd.ind (P := fun t => ∀ {a : Nat}, rightN t a = true → smallN t = true) ?_ t
  intro k o n s ns ks p ih a h
  rw [rightN_mk, Bool.and_eq_true, Bool.and_eq_true] at h
  obtain ⟨_, h1, h2⟩ := h
  unfold okB at h1
  simp only [Bool.and_eq_true] at h1
  obtain ⟨_, _, h3, h4, _⟩ := h1
  have e1 := str_small h3
  obtain ⟨e2, e3⟩ := ns_small h4
  have e4 : smallL ks = true := smallL_all fun x hx => by
    obtain ⟨b, hb⟩ := rightL_each h2 x hx
    exact ih x hx hb
  rw [smallN, e3, e4]
  simp [e1, e2]
theorem small_check {t : Nd} (h : checkN t = 0) : smallN t = true := by
  unfold checkN at h
  split at h
  · cases h
  · split at h
    · rename_i hr
      exact small_right hr
    · cases h

end Go.Proofs.YteoghacpdfnijaaDoor
