/- What signs make of one value, and its length and its text, in ops and in the document. -/
import Derived.Test.YtpagacgkcpgicaaOps1
import Derived.Test.YtpagacgkcpgicaaRShow
namespace Go.Proofs.Ytpagacgkcpgicaa
open Go.RowKit

/-- what Un makes of a value: kind, number, bytes, error -/
def unOut (op k n : Int) : Int × Int × ByteArray × Int :=
  if op = 1 then (if k = 2 then (2, W63 (-n), ⟨#[]⟩, 0) else (0, 0, ⟨#[]⟩, 30)) else if op = 2 then (1, bit (!truthB k n), ⟨#[]⟩, 0) else (0, 0, ⟨#[]⟩, 2)
def lenOut (k : Int) (s : ByteArray) : Int × Int × ByteArray × Int := if k = 3 then (2, (s.size : Int), ⟨#[]⟩, 0) else (0, 0, ⟨#[]⟩, 30)
def textOf (l : List UInt8) (most : Int) : Int × Int × ByteArray × Int := if most < (l.length : Int) then (0, 0, ⟨#[]⟩, 43) else (3, 0, ⟨l.toArray⟩, 0)
def textOut (k n : Int) (s : ByteArray) (most : Int) : Int × Int × ByteArray × Int := textOf (showB k n s.data.toList) most

theorem show_size (k n : Int) (s : ByteArray) (hm : s.size ≤ 1000000) : (showB k n s.data.toList).length ≤ 1000000 := by
  have h1 := list_size s
  have h2 := digs_length n
  unfold showB
  repeat' split
  all_goals first | (simp; done) | (simp only [h1]; exact hm) | omega

theorem un_calls (op k n : Int) (s : ByteArray) (w : World) :
    Calls Try.prog 10 #[.int .i64 op, .agg #[.int .i64 k, .int .i64 n, .string s]] w fun e w' =>
      e = .returned (.tuple #[.agg #[.int .i64 (unOut op k n).1, .int .i64 (unOut op k n).2.1, .string (unOut op k n).2.2.1], .int .i64 (unOut op k n).2.2.2]) ∧ Below w.heap.size w w' := by
  have hs := fun k => hid (slot_new (w.alloc (Obj.cells #[.int .i64 k, .int .i64 n, .string s] 23)) (g := w.heap.size + 1) (by simp) 23)
  rcases (show op = 1 ∨ op = 2 ∨ (op ≠ 1 ∧ op ≠ 2) from by omega) with rfl | rfl | ⟨o1, o2⟩
  · by_cases hk : k = 2
    · subst hk
      rw [show unOut 1 2 n = (2, W63 (-n), ⟨#[]⟩, 0) from rfl]
      have hs := hs 2
      go_enter Try.func10, Try.ntmps10
      go_wp2_with fail
      refine (neg_calls n _).mono ?_
      rintro e w1 ⟨rfl, rfl⟩
      go_wp2_with fail
      refine (whole_calls _ _).mono ?_
      rintro e w1 ⟨rfl, b1⟩
      have H := hid (slot_on hs.out b1)
      obtain ⟨h0, h1, h2, h3, h4, h5, h6⟩ := H.out
      go_wp2
      exact bodyPost_ret (ret_ve rfl rfl (put3_cells H.out _ _ _)) rfl ⟨rfl, put3 (below_on (box2 _ _ _) b1) (by simp) _ _ _⟩
    · rw [show unOut 1 k n = (0, 0, ⟨#[]⟩, 30) from by simp [unOut, hk]]
      clear hs
      go_enter Try.func10, Try.ntmps10
      go_wp2
      exact bodyPost_ret (ret_ve rfl rfl ⟨by simp, by simp, by simp⟩) rfl ⟨rfl, box2 _ _ _⟩
  · rw [show unOut 2 k n = (1, bit (!truthB k n), ⟨#[]⟩, 0) from rfl]
    have hs := hs k
    go_enter Try.func10, Try.ntmps10
    go_wp2_with fail
    refine (truth_calls k n s _).mono ?_
    rintro e w1 ⟨rfl, b1⟩
    have H1 := hid (slot_on hs.out b1)
    have B1 := hid (below_on (box2 _ _ _) b1)
    clear b1 hs
    go_wp2_with fail
    refine (bool_calls _ _).mono ?_
    rintro e w2 ⟨rfl, b2⟩
    have H := hid (slot_on H1.out b2)
    have B2 := hid (below_on B1.out b2)
    clear H1 B1 b2
    obtain ⟨h0, h1, h2, h3, h4, h5, h6⟩ := H.out
    go_wp2
    exact bodyPost_ret (ret_ve rfl rfl (put3_cells H.out _ _ _)) rfl ⟨rfl, put3 B2.out (by simp) _ _ _⟩
  · rw [show unOut op k n = (0, 0, ⟨#[]⟩, 2) from by simp [unOut, o1, o2]]
    clear hs
    go_enter Try.func10, Try.ntmps10
    go_wp2
    exact bodyPost_ret (ret_ve rfl rfl ⟨by simp, by simp, by simp⟩) rfl ⟨rfl, box2 _ _ _⟩

theorem refun_calls (op k n : Int) (s : ByteArray) (w : World) :
    Calls Try.prog 13 #[.int .i64 op, .agg #[.int .i64 k, .int .i64 n, .string s]] w fun e w' =>
      e = .returned (.tuple #[.agg #[.int .i64 (unOut op k n).1, .int .i64 (unOut op k n).2.1, .string (unOut op k n).2.2.1], .int .i64 (unOut op k n).2.2.2]) ∧ Below w.heap.size w w' := by
  have hs := fun k => hid (slot_new (w.alloc (Obj.cells #[.int .i64 k, .int .i64 n, .string s] 23)) (g := w.heap.size + 1) (by simp) 23)
  rcases (show op = 1 ∨ op = 2 ∨ (op ≠ 1 ∧ op ≠ 2) from by omega) with rfl | rfl | ⟨o1, o2⟩
  · by_cases hk : k = 2
    · subst hk
      rw [show unOut 1 2 n = (2, W63 (-n), ⟨#[]⟩, 0) from rfl]
      have hs := hs 2
      go_enter Try.func13, Try.ntmps13
      go_wp2_with fail
      refine (refneg_calls n _).mono ?_
      rintro e w1 ⟨rfl, rfl⟩
      go_wp2_with fail
      refine (refwhole_calls _ _).mono ?_
      rintro e w1 ⟨rfl, b1⟩
      have H := hid (slot_on hs.out b1)
      obtain ⟨h0, h1, h2, h3, h4, h5, h6⟩ := H.out
      go_wp2
      exact bodyPost_ret (ret_ve rfl rfl (put3_cells H.out _ _ _)) rfl ⟨rfl, put3 (below_on (box2 _ _ _) b1) (by simp) _ _ _⟩
    · rw [show unOut 1 k n = (0, 0, ⟨#[]⟩, 30) from by simp [unOut, hk]]
      clear hs
      go_enter Try.func13, Try.ntmps13
      go_wp2
      exact bodyPost_ret (ret_ve rfl rfl ⟨by simp, by simp, by simp⟩) rfl ⟨rfl, box2 _ _ _⟩
  · rw [show unOut 2 k n = (1, bit (!truthB k n), ⟨#[]⟩, 0) from rfl]
    have hs := hs k
    go_enter Try.func13, Try.ntmps13
    go_wp2_with fail
    refine (reftruth_calls k n s _).mono ?_
    rintro e w1 ⟨rfl, b1⟩
    have H1 := hid (slot_on hs.out b1)
    have B1 := hid (below_on (box2 _ _ _) b1)
    clear b1 hs
    go_wp2_with fail
    refine (refbool_calls _ _).mono ?_
    rintro e w2 ⟨rfl, b2⟩
    have H := hid (slot_on H1.out b2)
    have B2 := hid (below_on B1.out b2)
    clear H1 B1 b2
    obtain ⟨h0, h1, h2, h3, h4, h5, h6⟩ := H.out
    go_wp2
    exact bodyPost_ret (ret_ve rfl rfl (put3_cells H.out _ _ _)) rfl ⟨rfl, put3 B2.out (by simp) _ _ _⟩
  · rw [show unOut op k n = (0, 0, ⟨#[]⟩, 2) from by simp [unOut, o1, o2]]
    clear hs
    go_enter Try.func13, Try.ntmps13
    go_wp2
    exact bodyPost_ret (ret_ve rfl rfl ⟨by simp, by simp, by simp⟩) rfl ⟨rfl, box2 _ _ _⟩

theorem len_calls (k n : Int) (s : ByteArray) (w : World) :
    Calls Try.prog 11 #[.agg #[.int .i64 k, .int .i64 n, .string s]] w fun e w' =>
      e = .returned (.tuple #[.agg #[.int .i64 (lenOut k s).1, .int .i64 (lenOut k s).2.1, .string (lenOut k s).2.2.1], .int .i64 (lenOut k s).2.2.2]) ∧ Below w.heap.size w w' := by
  by_cases hk : k = 3
  · subst hk
    rw [show lenOut 3 s = (2, (s.size : Int), ⟨#[]⟩, 0) from rfl]
    have hs := hid (slot_new (w.alloc (Obj.cells #[.int .i64 3, .int .i64 n, .string s] 23)) (g := w.heap.size + 1) (by simp) 23)
    go_enter Try.func11, Try.ntmps11
    go_wp2_with fail
    refine (whole_calls _ _).mono ?_
    rintro e w1 ⟨rfl, b1⟩
    have H := hid (slot_on hs.out b1)
    obtain ⟨h0, h1, h2, h3, h4, h5, h6⟩ := H.out
    go_wp2
    exact bodyPost_ret (ret_ve rfl rfl (put3_cells H.out _ _ _)) rfl ⟨rfl, put3 (below_on (box2 _ _ _) b1) (by simp) _ _ _⟩
  · rw [show lenOut k s = (0, 0, ⟨#[]⟩, 30) from by simp [lenOut, hk]]
    go_enter Try.func11, Try.ntmps11
    go_wp2
    exact bodyPost_ret (ret_ve rfl rfl ⟨by simp, by simp, by simp⟩) rfl ⟨rfl, box2 _ _ _⟩

theorem reflen_calls (k n : Int) (s : ByteArray) (w : World) :
    Calls Try.prog 14 #[.agg #[.int .i64 k, .int .i64 n, .string s]] w fun e w' =>
      e = .returned (.tuple #[.agg #[.int .i64 (lenOut k s).1, .int .i64 (lenOut k s).2.1, .string (lenOut k s).2.2.1], .int .i64 (lenOut k s).2.2.2]) ∧ Below w.heap.size w w' := by
  by_cases hk : k = 3
  · subst hk
    rw [show lenOut 3 s = (2, (s.size : Int), ⟨#[]⟩, 0) from rfl]
    have hs := hid (slot_new (w.alloc (Obj.cells #[.int .i64 3, .int .i64 n, .string s] 23)) (g := w.heap.size + 1) (by simp) 23)
    go_enter Try.func14, Try.ntmps14
    go_wp2_with fail
    refine (refwhole_calls _ _).mono ?_
    rintro e w1 ⟨rfl, b1⟩
    have H := hid (slot_on hs.out b1)
    obtain ⟨h0, h1, h2, h3, h4, h5, h6⟩ := H.out
    go_wp2
    exact bodyPost_ret (ret_ve rfl rfl (put3_cells H.out _ _ _)) rfl ⟨rfl, put3 (below_on (box2 _ _ _) b1) (by simp) _ _ _⟩
  · rw [show lenOut k s = (0, 0, ⟨#[]⟩, 30) from by simp [lenOut, hk]]
    go_enter Try.func14, Try.ntmps14
    go_wp2
    exact bodyPost_ret (ret_ve rfl rfl ⟨by simp, by simp, by simp⟩) rfl ⟨rfl, box2 _ _ _⟩

theorem text_calls (k n : Int) (b1 : -9223372036854775808 ≤ n) (b2 : n ≤ 9223372036854775807) (s : ByteArray) (hm : s.size ≤ 1000000) (most : Int) (w : World) :
    Calls Try.prog 12 #[.agg #[.int .i64 k, .int .i64 n, .string s], .int .i64 most] w fun e w' =>
      e = .returned (.tuple #[.agg #[.int .i64 (textOut k n s most).1, .int .i64 (textOut k n s most).2.1, .string (textOut k n s most).2.2.1], .int .i64 (textOut k n s most).2.2.2]) ∧ Below w.heap.size w w' := by
  have hz := show_size k n s hm
  rw [show textOut k n s most = textOf (showB k n s.data.toList) most from rfl]
  obtain ⟨l, hr'⟩ : ∃ l, showB k n s.data.toList = l := ⟨_, rfl⟩
  rw [hr'] at hz ⊢
  have hr := hid hr'
  clear hr'
  have hs := hid (slot_new (w.alloc (Obj.cells #[.int .i64 k, .int .i64 n, .string s] 23)) (g := w.heap.size + 1) (by simp) 23)
  by_cases hl : most < (l.length : Int)
  · rw [show textOf l most = (0, 0, ⟨#[]⟩, 43) from by simp [textOf, hl]]
    go_enter Try.func12, Try.ntmps12
    go_wp2_with fail
    refine (show_calls k n b1 b2 s _).mono ?_
    rintro e w1 ⟨rfl, b3⟩
    have H1 := hid (slot_on hs.out b3)
    have B1 := hid (below_on (box2 _ _ _) b3)
    clear b1 b2 b3 hs hm
    obtain ⟨h0, h1', h2', h3, h4, h5, h6⟩ := H1.out
    rw [hr.out]
    go_wp2
    exact bodyPost_ret (ret_ve rfl rfl (put3_cells H1.out _ _ _)) rfl ⟨rfl, put3 B1.out (by simp) _ _ _⟩
  · rw [show textOf l most = (3, 0, ⟨l.toArray⟩, 0) from by simp [textOf, hl]]
    go_enter Try.func12, Try.ntmps12
    go_wp2_with fail
    refine (show_calls k n b1 b2 s _).mono ?_
    rintro e w1 ⟨rfl, b3⟩
    have H1 := hid (slot_on hs.out b3)
    have B1 := hid (below_on (box2 _ _ _) b3)
    clear b1 b2 b3 hs hm
    obtain ⟨h0, h1', h2', h3, h4, h5, h6⟩ := H1.out
    rw [hr.out]
    go_wp2_with fail
    refine (str_calls _ _).mono ?_
    rintro e w2 ⟨rfl, b2⟩
    have H := hid (slot_on H1.out b2)
    have B2 := hid (below_on B1.out b2)
    clear H1 B1 b2 h0 h1' h2' h3 h4 h5 h6
    obtain ⟨h0, h1', h2', h3, h4, h5, h6⟩ := H.out
    go_wp2
    exact bodyPost_ret (ret_ve rfl rfl (put3_cells H.out _ _ _)) rfl ⟨rfl, put3 B2.out (by simp) _ _ _⟩

theorem reftext_calls (k n : Int) (b1 : -9223372036854775808 ≤ n) (b2 : n ≤ 9223372036854775807) (s : ByteArray) (hm : s.size ≤ 1000000) (most : Int) (w : World) :
    Calls Try.prog 15 #[.agg #[.int .i64 k, .int .i64 n, .string s], .int .i64 most] w fun e w' =>
      e = .returned (.tuple #[.agg #[.int .i64 (textOut k n s most).1, .int .i64 (textOut k n s most).2.1, .string (textOut k n s most).2.2.1], .int .i64 (textOut k n s most).2.2.2]) ∧ Below w.heap.size w w' := by
  have hz := show_size k n s hm
  rw [show textOut k n s most = textOf (showB k n s.data.toList) most from rfl]
  obtain ⟨l, hr'⟩ : ∃ l, showB k n s.data.toList = l := ⟨_, rfl⟩
  rw [hr'] at hz ⊢
  have hr := hid hr'
  clear hr'
  have hs := hid (slot_new (w.alloc (Obj.cells #[.int .i64 k, .int .i64 n, .string s] 23)) (g := w.heap.size + 1) (by simp) 23)
  by_cases hl : most < (l.length : Int)
  · rw [show textOf l most = (0, 0, ⟨#[]⟩, 43) from by simp [textOf, hl]]
    go_enter Try.func15, Try.ntmps15
    go_wp2_with fail
    refine (refshow_calls k n b1 b2 s _).mono ?_
    rintro e w1 ⟨rfl, b3⟩
    have H1 := hid (slot_on hs.out b3)
    have B1 := hid (below_on (box2 _ _ _) b3)
    clear b1 b2 b3 hs hm
    obtain ⟨h0, h1', h2', h3, h4, h5, h6⟩ := H1.out
    rw [hr.out]
    go_wp2
    exact bodyPost_ret (ret_ve rfl rfl (put3_cells H1.out _ _ _)) rfl ⟨rfl, put3 B1.out (by simp) _ _ _⟩
  · rw [show textOf l most = (3, 0, ⟨l.toArray⟩, 0) from by simp [textOf, hl]]
    go_enter Try.func15, Try.ntmps15
    go_wp2_with fail
    refine (refshow_calls k n b1 b2 s _).mono ?_
    rintro e w1 ⟨rfl, b3⟩
    have H1 := hid (slot_on hs.out b3)
    have B1 := hid (below_on (box2 _ _ _) b3)
    clear b1 b2 b3 hs hm
    obtain ⟨h0, h1', h2', h3, h4, h5, h6⟩ := H1.out
    rw [hr.out]
    go_wp2
    exact bodyPost_ret (ret_ve rfl rfl (put3_cells H1.out _ _ _)) rfl ⟨rfl, put3 B1.out (by simp) _ _ _⟩

end Go.Proofs.Ytpagacgkcpgicaa
