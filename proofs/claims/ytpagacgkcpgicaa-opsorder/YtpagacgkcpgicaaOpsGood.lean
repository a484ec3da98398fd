/- What comes of right values is right; with an error there is nothing. -/
import Derived.Test.YtpagacgkcpgicaaOpsPlain
import Derived.Test.YtpagacgkcpgicaaOpsUn
namespace Go.Proofs.Ytpagacgkcpgicaa
open Go.RowKit

/-- an answer may be, and with an error there is nothing -/
def Good (r : Int × Int × ByteArray × Int) : Prop := rightB r.1 r.2.1 r.2.2.1.data.toList = true ∧ (r.2.2.2 = 0 ∨ (r.1 = 0 ∧ r.2.1 = 0 ∧ r.2.2.1 = ⟨#[]⟩))

theorem good_err (e : Int) : Good (errOut e) := ⟨rfl, .inr ⟨rfl, rfl, rfl⟩⟩
theorem good_bool (t : Bool) : Good (boolOut t) := ⟨by cases t <;> rfl, .inl rfl⟩
theorem good_int {m : Int} (h1 : -4611686018427387904 ≤ m) (h2 : m ≤ 4611686018427387903) : Good (intOut m) :=
  ⟨by show (decide (([] : List UInt8) = []) && (decide (-4611686018427387904 ≤ m) && decide (m ≤ 4611686018427387903))) = true; simp [h1, h2], .inl rfl⟩
theorem good_wrap (m : Int) : Good (intOut (W63 m)) := good_int (W63_lo m) (W63_hi m)

theorem rest_good {a b : Int} (h1 : -4611686018427387904 ≤ a) (h2 : a ≤ 4611686018427387903) : -4611686018427387904 ≤ a.tmod b ∧ a.tmod b ≤ 4611686018427387903 := by
  have hb : (a.tmod b).natAbs ≤ a.natAbs := by rw [Int.natAbs_tmod]; exact Nat.mod_le _ _
  refine ⟨by omega, ?_⟩
  by_cases ha : 0 ≤ a
  · omega
  · have : a.tmod b ≤ 0 := by
      have := Int.tmod_nonneg (a := -a) b (by omega)
      rw [Int.neg_tmod] at this
      omega
    omega

theorem right_int {n : Int} {l : List UInt8} (h : rightB 2 n l = true) : -4611686018427387904 ≤ n ∧ n ≤ 4611686018427387903 := by
  simp [rightB, countsB] at h
  exact h.2

theorem good_num {op n n' : Int} {l : List UInt8} (h : rightB 2 n l = true) : Good (numOut op n n') := by
  obtain ⟨a, b⟩ := right_int h
  unfold numOut
  repeat' split
  · exact good_wrap _
  · exact good_wrap _
  · exact good_wrap _
  · exact good_err _
  · exact good_wrap _
  · exact good_err _
  · exact good_int (rest_good a b).1 (rest_good a b).2
  · exact good_bool _

theorem good_str {op : Int} {s s' : ByteArray} : Good (strOut op s s' 256) := by
  unfold strOut
  repeat' split
  · exact good_err _
  · rename_i h
    refine ⟨?_, .inl rfl⟩
    show ((0 : Int) == 0 && decide ((s ++ s').data.toList.length ≤ 256)) = true
    rw [list_size, ByteArray.size_append, decide_eq_true (by omega)]; rfl
  · exact good_err _
  · exact good_bool _

theorem good_bin (op k n : Int) (s : ByteArray) (k' n' : Int) (s' : ByteArray) (h : rightB k n s.data.toList = true) : Good (binOut op k n s k' n' s' 256) := by
  unfold binOut
  split
  · exact good_err _
  · split
    · exact good_bool _
    · split
      · exact good_bool _
      · split
        · rename_i hk
          rw [hk.1] at h
          exact good_num h
        · split
          · exact good_str
          · exact good_err _

theorem good_un (op k n : Int) : Good (unOut op k n) := by
  unfold unOut
  repeat' split
  · exact good_wrap _
  · exact good_err _
  · exact good_bool _
  · exact good_err _

theorem right_size {k n : Int} {s : ByteArray} (h : rightB k n s.data.toList = true) : s.size ≤ 256 := by
  rw [← list_size]
  by_cases hk : k = 3
  · simp [rightB, hk] at h; simp; exact h.2
  · simp [rightB, hk] at h; simp [h.1]

theorem good_text {k n : Int} {s : ByteArray} (h : rightB k n s.data.toList = true) : Good (textOut k n s 256) ∧ (textOut k n s 256).2.2.2 = 0 := by
  have hz := right_size h
  have hl : (showB k n s.data.toList).length ≤ 256 := by
    have h1 := list_size s
    have h2 := digs_length n
    unfold showB
    repeat' split
    all_goals first | (simp; done) | (simp only [h1]; exact hz) | omega
  unfold textOut textOf
  rw [if_neg (by omega)]
  refine ⟨⟨?_, .inl rfl⟩, rfl⟩
  show ((0 : Int) == 0 && decide ((showB k n s.data.toList).toArray.toList.length ≤ 256)) = true
  simp [hl]

end Go.Proofs.Ytpagacgkcpgicaa
