/- What the document's Bin answers, sign by sign. -/
import Derived.Test.YtpagacgkcpgicaaOpsPart
import Derived.Test.YtpagacgkcpgicaaRTell
namespace Go.Proofs.Ytpagacgkcpgicaa
open Go.RowKit

theorem new_cells (W : World) {g : Nat} (hg : g = W.heap.size) (x y z : Value) (t : TypeId) :
    (W.alloc (Obj.cells #[x, y, z] t)).cell? ⟨g, 0, none⟩ = some x ∧ (W.alloc (Obj.cells #[x, y, z] t)).cell? ⟨g, 1, none⟩ = some y ∧ (W.alloc (Obj.cells #[x, y, z] t)).cell? ⟨g, 2, none⟩ = some z := by
  subst hg
  exact ⟨by simp, by simp, by simp⟩

theorem refbin_low (op : Int) (k n : Int) (s : ByteArray) (k' n' : Int) (s' : ByteArray) (ho : op < 1) (most : Int) (w : World) :
    Calls Try.prog 17 #[.int .i64 op, .agg #[.int .i64 k, .int .i64 n, .string s], .agg #[.int .i64 k', .int .i64 n', .string s'], .int .i64 most] w fun e w' => e = .returned (.tuple #[.agg #[.int .i64 0, .int .i64 0, .string ⟨#[]⟩], .int .i64 2]) ∧ Below w.heap.size w w' := by
  have H0 := hid (kept2_new w k n s k' n' s' 23)
  · go_enter Try.func17, Try.ntmps17
    go_wp2
    exact bodyPost_ret (ret_ve rfl rfl ⟨H0.out.2.2.1, H0.out.2.2.2.1, H0.out.2.2.2.2.1⟩) rfl ⟨rfl, kept2_below H0.out⟩

theorem refbin_high (op : Int) (k n : Int) (s : ByteArray) (k' n' : Int) (s' : ByteArray) (ho : 11 < op) (most : Int) (w : World) :
    Calls Try.prog 17 #[.int .i64 op, .agg #[.int .i64 k, .int .i64 n, .string s], .agg #[.int .i64 k', .int .i64 n', .string s'], .int .i64 most] w fun e w' => e = .returned (.tuple #[.agg #[.int .i64 0, .int .i64 0, .string ⟨#[]⟩], .int .i64 2]) ∧ Below w.heap.size w w' := by
  have H0 := hid (kept2_new w k n s k' n' s' 23)
  have h1 : 1 ≤ op := by omega
  · go_enter Try.func17, Try.ntmps17
    go_wp2
    exact bodyPost_ret (ret_ve rfl rfl ⟨H0.out.2.2.1, H0.out.2.2.2.1, H0.out.2.2.2.2.1⟩) rfl ⟨rfl, kept2_below H0.out⟩

theorem refbin_eq (k n : Int) (s : ByteArray) (k' n' : Int) (s' : ByteArray) (most : Int) (w : World) :
    Calls Try.prog 17 #[.int .i64 10, .agg #[.int .i64 k, .int .i64 n, .string s], .agg #[.int .i64 k', .int .i64 n', .string s'], .int .i64 most] w fun e w' => e = .returned (.tuple #[.agg #[.int .i64 1, .int .i64 (bit (alike k n s.data.toList k' n' s'.data.toList)), .string ⟨#[]⟩], .int .i64 0]) ∧ Below w.heap.size w w' := by
  have H0 := hid (kept2_new w k n s k' n' s' 23)
  · go_enter Try.func17, Try.ntmps17
    go_wp2_with fail
    refine (refsame_calls k n s k' n' s' _).mono ?_
    rintro e w1 ⟨rfl, b1⟩
    have H1 := hid (kept2_on H0.out b1)
    clear b1 H0
    obtain ⟨⟨_, _, c0, c1, c2, c3, c4, c5⟩, h0, h1, h2, h3, h4, h5, h6⟩ := H1.out
    go_wp2_with fail
    refine (refbool_calls _ _).mono ?_
    rintro e w2 ⟨rfl, b2⟩
    have H2 := hid (kept2_on H1.out b2)
    clear b2 H1 c0 c1 c2 c3 c4 c5 h0 h1 h2 h3 h4 h5 h6
    obtain ⟨⟨_, _, c0, c1, c2, c3, c4, c5⟩, h0, h1, h2, h3, h4, h5, h6⟩ := H2.out
    go_wp2
    exact bodyPost_ret (ret_ve rfl rfl (put3_cells H2.out.2 _ _ _)) rfl ⟨rfl, put3 (kept2_below H2.out) (by omega) _ _ _⟩

theorem refbin_ne (k n : Int) (s : ByteArray) (k' n' : Int) (s' : ByteArray) (most : Int) (w : World) :
    Calls Try.prog 17 #[.int .i64 11, .agg #[.int .i64 k, .int .i64 n, .string s], .agg #[.int .i64 k', .int .i64 n', .string s'], .int .i64 most] w fun e w' => e = .returned (.tuple #[.agg #[.int .i64 1, .int .i64 (bit (!alike k n s.data.toList k' n' s'.data.toList)), .string ⟨#[]⟩], .int .i64 0]) ∧ Below w.heap.size w w' := by
  have H0 := hid (kept2_new w k n s k' n' s' 23)
  · go_enter Try.func17, Try.ntmps17
    go_wp2_with fail
    refine (refsame_calls k n s k' n' s' _).mono ?_
    rintro e w1 ⟨rfl, b1⟩
    have H1 := hid (kept2_on H0.out b1)
    clear b1 H0
    obtain ⟨⟨_, _, c0, c1, c2, c3, c4, c5⟩, h0, h1, h2, h3, h4, h5, h6⟩ := H1.out
    go_wp2_with fail
    refine (refbool_calls _ _).mono ?_
    rintro e w2 ⟨rfl, b2⟩
    have H2 := hid (kept2_on H1.out b2)
    clear b2 H1 c0 c1 c2 c3 c4 c5 h0 h1 h2 h3 h4 h5 h6
    obtain ⟨⟨_, _, c0, c1, c2, c3, c4, c5⟩, h0, h1, h2, h3, h4, h5, h6⟩ := H2.out
    go_wp2
    exact bodyPost_ret (ret_ve rfl rfl (put3_cells H2.out.2 _ _ _)) rfl ⟨rfl, put3 (kept2_below H2.out) (by omega) _ _ _⟩

theorem refbin_apart (op : Int) (k n : Int) (s : ByteArray) (k' n' : Int) (s' : ByteArray) (h1 : 1 ≤ op) (h9 : op ≤ 9) (hk : (k != k') = true) (most : Int) (w : World) :
    Calls Try.prog 17 #[.int .i64 op, .agg #[.int .i64 k, .int .i64 n, .string s], .agg #[.int .i64 k', .int .i64 n', .string s'], .int .i64 most] w fun e w' => e = .returned (.tuple #[.agg #[.int .i64 0, .int .i64 0, .string ⟨#[]⟩], .int .i64 30]) ∧ Below w.heap.size w w' := by
  have H0 := hid (kept2_new w k n s k' n' s' 23)
  have o1 : decide (op < 1) = false := decide_eq_false (by omega)
  have o2 : decide (11 < op) = false := decide_eq_false (by omega)
  have o3 : decide (9 < op) = false := decide_eq_false (by omega)
  clear h1 h9
  · go_enter Try.func17, Try.ntmps17
    go_wp2
    exact bodyPost_ret (ret_ve rfl rfl ⟨H0.out.2.2.1, H0.out.2.2.2.1, H0.out.2.2.2.2.1⟩) rfl ⟨rfl, kept2_below H0.out⟩

theorem refbin_kind (op k n : Int) (s : ByteArray) (n' : Int) (s' : ByteArray) (h1 : 1 ≤ op) (h9 : op ≤ 9) (h2 : (k != 2) = true) (h3 : (k != 3) = true) (most : Int) (w : World) :
    Calls Try.prog 17 #[.int .i64 op, .agg #[.int .i64 k, .int .i64 n, .string s], .agg #[.int .i64 k, .int .i64 n', .string s'], .int .i64 most] w fun e w' => e = .returned (.tuple #[.agg #[.int .i64 0, .int .i64 0, .string ⟨#[]⟩], .int .i64 30]) ∧ Below w.heap.size w w' := by
  have H0 := hid (kept2_new w k n s k n' s' 23)
  have o1 : decide (op < 1) = false := decide_eq_false (by omega)
  have o2 : decide (11 < op) = false := decide_eq_false (by omega)
  have o3 : decide (9 < op) = false := decide_eq_false (by omega)
  clear h1 h9
  · go_enter Try.func17, Try.ntmps17
    go_wp2
    exact bodyPost_ret (ret_ve rfl rfl ⟨H0.out.2.2.1, H0.out.2.2.2.1, H0.out.2.2.2.2.1⟩) rfl ⟨rfl, kept2_below H0.out⟩

theorem refbin_str2 (n : Int) (s : ByteArray) (n' : Int) (s' : ByteArray) (most : Int) (w : World) :
    Calls Try.prog 17 #[.int .i64 2, .agg #[.int .i64 3, .int .i64 n, .string s], .agg #[.int .i64 3, .int .i64 n', .string s'], .int .i64 most] w fun e w' => e = .returned (.tuple #[.agg #[.int .i64 0, .int .i64 0, .string ⟨#[]⟩], .int .i64 30]) ∧ Below w.heap.size w w' := by
  have H0 := hid (kept2_new w 3 n s 3 n' s' 23)
  · go_enter Try.func17, Try.ntmps17
    go_wp2
    exact bodyPost_ret (ret_ve rfl rfl ⟨H0.out.2.2.1, H0.out.2.2.2.1, H0.out.2.2.2.2.1⟩) rfl ⟨rfl, kept2_below H0.out⟩

theorem refbin_str3 (n : Int) (s : ByteArray) (n' : Int) (s' : ByteArray) (most : Int) (w : World) :
    Calls Try.prog 17 #[.int .i64 3, .agg #[.int .i64 3, .int .i64 n, .string s], .agg #[.int .i64 3, .int .i64 n', .string s'], .int .i64 most] w fun e w' => e = .returned (.tuple #[.agg #[.int .i64 0, .int .i64 0, .string ⟨#[]⟩], .int .i64 30]) ∧ Below w.heap.size w w' := by
  have H0 := hid (kept2_new w 3 n s 3 n' s' 23)
  · go_enter Try.func17, Try.ntmps17
    go_wp2
    exact bodyPost_ret (ret_ve rfl rfl ⟨H0.out.2.2.1, H0.out.2.2.2.1, H0.out.2.2.2.2.1⟩) rfl ⟨rfl, kept2_below H0.out⟩

theorem refbin_str4 (n : Int) (s : ByteArray) (n' : Int) (s' : ByteArray) (most : Int) (w : World) :
    Calls Try.prog 17 #[.int .i64 4, .agg #[.int .i64 3, .int .i64 n, .string s], .agg #[.int .i64 3, .int .i64 n', .string s'], .int .i64 most] w fun e w' => e = .returned (.tuple #[.agg #[.int .i64 0, .int .i64 0, .string ⟨#[]⟩], .int .i64 30]) ∧ Below w.heap.size w w' := by
  have H0 := hid (kept2_new w 3 n s 3 n' s' 23)
  · go_enter Try.func17, Try.ntmps17
    go_wp2
    exact bodyPost_ret (ret_ve rfl rfl ⟨H0.out.2.2.1, H0.out.2.2.2.1, H0.out.2.2.2.2.1⟩) rfl ⟨rfl, kept2_below H0.out⟩

theorem refbin_str5 (n : Int) (s : ByteArray) (n' : Int) (s' : ByteArray) (most : Int) (w : World) :
    Calls Try.prog 17 #[.int .i64 5, .agg #[.int .i64 3, .int .i64 n, .string s], .agg #[.int .i64 3, .int .i64 n', .string s'], .int .i64 most] w fun e w' => e = .returned (.tuple #[.agg #[.int .i64 0, .int .i64 0, .string ⟨#[]⟩], .int .i64 30]) ∧ Below w.heap.size w w' := by
  have H0 := hid (kept2_new w 3 n s 3 n' s' 23)
  · go_enter Try.func17, Try.ntmps17
    go_wp2
    exact bodyPost_ret (ret_ve rfl rfl ⟨H0.out.2.2.1, H0.out.2.2.2.1, H0.out.2.2.2.2.1⟩) rfl ⟨rfl, kept2_below H0.out⟩

theorem refbin_add (n : Int) (s : ByteArray) (n' : Int) (s' : ByteArray) (most : Int) (w : World) :
    Calls Try.prog 17 #[.int .i64 1, .agg #[.int .i64 2, .int .i64 n, .string s], .agg #[.int .i64 2, .int .i64 n', .string s'], .int .i64 most] w fun e w' => e = .returned (.tuple #[.agg #[.int .i64 2, .int .i64 (W63 (n + n')), .string ⟨#[]⟩], .int .i64 0]) ∧ Below w.heap.size w w' := by
  have H0 := hid (kept2_new w 2 n s 2 n' s' 23)
  · go_enter Try.func17, Try.ntmps17
    go_wp2_with fail
    refine (refadd_calls n n' _).mono ?_
    rintro e wx ⟨rfl, rfl⟩
    go_wp2_with fail
    refine (refwhole_calls _ _).mono ?_
    rintro e w1 ⟨rfl, b1⟩
    have H1 := hid (kept2_on H0.out b1)
    clear b1 H0
    obtain ⟨⟨_, _, c0, c1, c2, c3, c4, c5⟩, h0, h1, h2, h3, h4, h5, h6⟩ := H1.out
    go_wp2
    exact bodyPost_ret (ret_ve rfl rfl (put3_cells H1.out.2 _ _ _)) rfl ⟨rfl, put3 (kept2_below H1.out) (by omega) _ _ _⟩

theorem refbin_sub (n : Int) (s : ByteArray) (n' : Int) (s' : ByteArray) (most : Int) (w : World) :
    Calls Try.prog 17 #[.int .i64 2, .agg #[.int .i64 2, .int .i64 n, .string s], .agg #[.int .i64 2, .int .i64 n', .string s'], .int .i64 most] w fun e w' => e = .returned (.tuple #[.agg #[.int .i64 2, .int .i64 (W63 (n - n')), .string ⟨#[]⟩], .int .i64 0]) ∧ Below w.heap.size w w' := by
  have H0 := hid (kept2_new w 2 n s 2 n' s' 23)
  · go_enter Try.func17, Try.ntmps17
    go_wp2_with fail
    refine (refsub_calls n n' _).mono ?_
    rintro e wx ⟨rfl, rfl⟩
    go_wp2_with fail
    refine (refwhole_calls _ _).mono ?_
    rintro e w1 ⟨rfl, b1⟩
    have H1 := hid (kept2_on H0.out b1)
    clear b1 H0
    obtain ⟨⟨_, _, c0, c1, c2, c3, c4, c5⟩, h0, h1, h2, h3, h4, h5, h6⟩ := H1.out
    go_wp2
    exact bodyPost_ret (ret_ve rfl rfl (put3_cells H1.out.2 _ _ _)) rfl ⟨rfl, put3 (kept2_below H1.out) (by omega) _ _ _⟩

theorem refbin_mul (n : Int) (s : ByteArray) (n' : Int) (s' : ByteArray) (most : Int) (w : World) :
    Calls Try.prog 17 #[.int .i64 3, .agg #[.int .i64 2, .int .i64 n, .string s], .agg #[.int .i64 2, .int .i64 n', .string s'], .int .i64 most] w fun e w' => e = .returned (.tuple #[.agg #[.int .i64 2, .int .i64 (W63 (n * n')), .string ⟨#[]⟩], .int .i64 0]) ∧ Below w.heap.size w w' := by
  have H0 := hid (kept2_new w 2 n s 2 n' s' 23)
  · go_enter Try.func17, Try.ntmps17
    go_wp2_with fail
    refine (refmul_calls n n' _).mono ?_
    rintro e wx ⟨rfl, rfl⟩
    go_wp2_with fail
    refine (refwhole_calls _ _).mono ?_
    rintro e w1 ⟨rfl, b1⟩
    have H1 := hid (kept2_on H0.out b1)
    clear b1 H0
    obtain ⟨⟨_, _, c0, c1, c2, c3, c4, c5⟩, h0, h1, h2, h3, h4, h5, h6⟩ := H1.out
    go_wp2
    exact bodyPost_ret (ret_ve rfl rfl (put3_cells H1.out.2 _ _ _)) rfl ⟨rfl, put3 (kept2_below H1.out) (by omega) _ _ _⟩

theorem refbin_div (n : Int) (s : ByteArray) (n' : Int) (s' : ByteArray) (hb : ¬ n' = 0) (most : Int) (w : World) :
    Calls Try.prog 17 #[.int .i64 4, .agg #[.int .i64 2, .int .i64 n, .string s], .agg #[.int .i64 2, .int .i64 n', .string s'], .int .i64 most] w fun e w' => e = .returned (.tuple #[.agg #[.int .i64 2, .int .i64 (W63 (n.tdiv n')), .string ⟨#[]⟩], .int .i64 0]) ∧ Below w.heap.size w w' := by
  have H0 := hid (kept2_new w 2 n s 2 n' s' 23)
  · go_enter Try.func17, Try.ntmps17
    go_wp2_with fail
    refine (refdiv_calls n n' hb _).mono ?_
    rintro e wx ⟨rfl, rfl⟩
    go_wp2_with fail
    refine (refwhole_calls _ _).mono ?_
    rintro e w1 ⟨rfl, b1⟩
    have H1 := hid (kept2_on H0.out b1)
    clear b1 H0
    obtain ⟨⟨_, _, c0, c1, c2, c3, c4, c5⟩, h0, h1, h2, h3, h4, h5, h6⟩ := H1.out
    go_wp2
    exact bodyPost_ret (ret_ve rfl rfl (put3_cells H1.out.2 _ _ _)) rfl ⟨rfl, put3 (kept2_below H1.out) (by omega) _ _ _⟩

theorem refbin_mod (n : Int) (s : ByteArray) (n' : Int) (s' : ByteArray) (h1 : -9223372036854775808 ≤ n) (h2 : n ≤ 9223372036854775807) (hb : ¬ n' = 0) (most : Int) (w : World) :
    Calls Try.prog 17 #[.int .i64 5, .agg #[.int .i64 2, .int .i64 n, .string s], .agg #[.int .i64 2, .int .i64 n', .string s'], .int .i64 most] w fun e w' => e = .returned (.tuple #[.agg #[.int .i64 2, .int .i64 (n.tmod n'), .string ⟨#[]⟩], .int .i64 0]) ∧ Below w.heap.size w w' := by
  have H0 := hid (kept2_new w 2 n s 2 n' s' 23)
  · go_enter Try.func17, Try.ntmps17
    go_wp2_with fail
    refine (refmod_calls n n' h1 h2 hb _).mono ?_
    rintro e wx ⟨rfl, rfl⟩
    go_wp2_with fail
    refine (refwhole_calls _ _).mono ?_
    rintro e w1 ⟨rfl, b1⟩
    have H1 := hid (kept2_on H0.out b1)
    clear b1 H0
    obtain ⟨⟨_, _, c0, c1, c2, c3, c4, c5⟩, h0, h1, h2, h3, h4, h5, h6⟩ := H1.out
    go_wp2
    exact bodyPost_ret (ret_ve rfl rfl (put3_cells H1.out.2 _ _ _)) rfl ⟨rfl, put3 (kept2_below H1.out) (by omega) _ _ _⟩

theorem refbin_div0 (n : Int) (s : ByteArray) (s' : ByteArray) (most : Int) (w : World) :
    Calls Try.prog 17 #[.int .i64 4, .agg #[.int .i64 2, .int .i64 n, .string s], .agg #[.int .i64 2, .int .i64 0, .string s'], .int .i64 most] w fun e w' => e = .returned (.tuple #[.agg #[.int .i64 0, .int .i64 0, .string ⟨#[]⟩], .int .i64 31]) ∧ Below w.heap.size w w' := by
  have H0 := hid (kept2_new w 2 n s 2 0 s' 23)
  · go_enter Try.func17, Try.ntmps17
    go_wp2_with fail
    refine (refdiv_zero n _).mono ?_
    rintro e wx ⟨rfl, rfl⟩
    go_wp2_with fail
    refine (refwhole_zero _ _).mono ?_
    rintro e w1 ⟨rfl, b1⟩
    have H1 := hid (kept2_on H0.out b1)
    clear b1 H0
    obtain ⟨⟨_, _, c0, c1, c2, c3, c4, c5⟩, h0, h1, h2, h3, h4, h5, h6⟩ := H1.out
    go_wp2
    exact bodyPost_ret (ret_ve rfl rfl (put3_cells H1.out.2 _ _ _)) rfl ⟨rfl, put3 (kept2_below H1.out) (by omega) _ _ _⟩

theorem refbin_mod0 (n : Int) (s : ByteArray) (s' : ByteArray) (most : Int) (w : World) :
    Calls Try.prog 17 #[.int .i64 5, .agg #[.int .i64 2, .int .i64 n, .string s], .agg #[.int .i64 2, .int .i64 0, .string s'], .int .i64 most] w fun e w' => e = .returned (.tuple #[.agg #[.int .i64 0, .int .i64 0, .string ⟨#[]⟩], .int .i64 31]) ∧ Below w.heap.size w w' := by
  have H0 := hid (kept2_new w 2 n s 2 0 s' 23)
  · go_enter Try.func17, Try.ntmps17
    go_wp2_with fail
    refine (refmod_zero n _).mono ?_
    rintro e wx ⟨rfl, rfl⟩
    go_wp2_with fail
    refine (refwhole_zero _ _).mono ?_
    rintro e w1 ⟨rfl, b1⟩
    have H1 := hid (kept2_on H0.out b1)
    clear b1 H0
    obtain ⟨⟨_, _, c0, c1, c2, c3, c4, c5⟩, h0, h1, h2, h3, h4, h5, h6⟩ := H1.out
    go_wp2
    exact bodyPost_ret (ret_ve rfl rfl (put3_cells H1.out.2 _ _ _)) rfl ⟨rfl, put3 (kept2_below H1.out) (by omega) _ _ _⟩

theorem refbin_lt (n : Int) (s : ByteArray) (n' : Int) (s' : ByteArray) (most : Int) (w : World) :
    Calls Try.prog 17 #[.int .i64 6, .agg #[.int .i64 2, .int .i64 n, .string s], .agg #[.int .i64 2, .int .i64 n', .string s'], .int .i64 most] w fun e w' => e = .returned (.tuple #[.agg #[.int .i64 1, .int .i64 (bit (decide (n < n'))), .string ⟨#[]⟩], .int .i64 0]) ∧ Below w.heap.size w w' := by
  have H0 := hid (kept2_new w 2 n s 2 n' s' 23)
  · go_enter Try.func17, Try.ntmps17
    go_wp2_with fail
    refine (less_num n s 2 n' s' _).mono ?_
    rintro e w1 ⟨rfl, b1⟩
    have H1 := hid (kept2_on H0.out b1)
    clear b1 H0
    obtain ⟨⟨_, _, c0, c1, c2, c3, c4, c5⟩, h0, h1, h2, h3, h4, h5, h6⟩ := H1.out
    go_wp2_with fail
    refine (refbool_calls _ _).mono ?_
    rintro e w2 ⟨rfl, b2⟩
    have H2 := hid (kept2_on H1.out b2)
    clear b2 H1 c0 c1 c2 c3 c4 c5 h0 h1 h2 h3 h4 h5 h6
    obtain ⟨⟨_, _, c0, c1, c2, c3, c4, c5⟩, h0, h1, h2, h3, h4, h5, h6⟩ := H2.out
    go_wp2
    exact bodyPost_ret (ret_ve rfl rfl (put3_cells H2.out.2 _ _ _)) rfl ⟨rfl, put3 (kept2_below H2.out) (by omega) _ _ _⟩

theorem refbin_slt (n : Int) (s : ByteArray) (n' : Int) (s' : ByteArray) (hs : s.size ≤ 1000000) (most : Int) (w : World) :
    Calls Try.prog 17 #[.int .i64 6, .agg #[.int .i64 3, .int .i64 n, .string s], .agg #[.int .i64 3, .int .i64 n', .string s'], .int .i64 most] w fun e w' => e = .returned (.tuple #[.agg #[.int .i64 1, .int .i64 (bit (blt s s')), .string ⟨#[]⟩], .int .i64 0]) ∧ Below w.heap.size w w' := by
  have H0 := hid (kept2_new w 3 n s 3 n' s' 23)
  · go_enter Try.func17, Try.ntmps17
    go_wp2_with fail
    refine (less_str n s 3 n' s' hs _).mono ?_
    rintro e w1 ⟨rfl, b1⟩
    have H1 := hid (kept2_on H0.out b1)
    clear b1 H0
    obtain ⟨⟨_, _, c0, c1, c2, c3, c4, c5⟩, h0, h1, h2, h3, h4, h5, h6⟩ := H1.out
    go_wp2_with fail
    refine (refbool_calls _ _).mono ?_
    rintro e w2 ⟨rfl, b2⟩
    have H2 := hid (kept2_on H1.out b2)
    clear b2 H1 c0 c1 c2 c3 c4 c5 h0 h1 h2 h3 h4 h5 h6
    obtain ⟨⟨_, _, c0, c1, c2, c3, c4, c5⟩, h0, h1, h2, h3, h4, h5, h6⟩ := H2.out
    go_wp2
    exact bodyPost_ret (ret_ve rfl rfl (put3_cells H2.out.2 _ _ _)) rfl ⟨rfl, put3 (kept2_below H2.out) (by omega) _ _ _⟩

theorem refbin_le (n : Int) (s : ByteArray) (n' : Int) (s' : ByteArray) (most : Int) (w : World) :
    Calls Try.prog 17 #[.int .i64 7, .agg #[.int .i64 2, .int .i64 n, .string s], .agg #[.int .i64 2, .int .i64 n', .string s'], .int .i64 most] w fun e w' => e = .returned (.tuple #[.agg #[.int .i64 1, .int .i64 (bit (!(decide (n' < n)))), .string ⟨#[]⟩], .int .i64 0]) ∧ Below w.heap.size w w' := by
  have H0 := hid (kept2_new w 2 n s 2 n' s' 23)
  · go_enter Try.func17, Try.ntmps17
    go_wp2_with fail
    refine (less_num n' s' 2 n s _).mono ?_
    rintro e w1 ⟨rfl, b1⟩
    have H1 := hid (kept2_on H0.out b1)
    clear b1 H0
    obtain ⟨⟨_, _, c0, c1, c2, c3, c4, c5⟩, h0, h1, h2, h3, h4, h5, h6⟩ := H1.out
    go_wp2_with fail
    refine (refbool_calls _ _).mono ?_
    rintro e w2 ⟨rfl, b2⟩
    have H2 := hid (kept2_on H1.out b2)
    clear b2 H1 c0 c1 c2 c3 c4 c5 h0 h1 h2 h3 h4 h5 h6
    obtain ⟨⟨_, _, c0, c1, c2, c3, c4, c5⟩, h0, h1, h2, h3, h4, h5, h6⟩ := H2.out
    go_wp2
    exact bodyPost_ret (ret_ve rfl rfl (put3_cells H2.out.2 _ _ _)) rfl ⟨rfl, put3 (kept2_below H2.out) (by omega) _ _ _⟩

theorem refbin_sle (n : Int) (s : ByteArray) (n' : Int) (s' : ByteArray) (hs : s'.size ≤ 1000000) (most : Int) (w : World) :
    Calls Try.prog 17 #[.int .i64 7, .agg #[.int .i64 3, .int .i64 n, .string s], .agg #[.int .i64 3, .int .i64 n', .string s'], .int .i64 most] w fun e w' => e = .returned (.tuple #[.agg #[.int .i64 1, .int .i64 (bit (!(blt s' s))), .string ⟨#[]⟩], .int .i64 0]) ∧ Below w.heap.size w w' := by
  have H0 := hid (kept2_new w 3 n s 3 n' s' 23)
  · go_enter Try.func17, Try.ntmps17
    go_wp2_with fail
    refine (less_str n' s' 3 n s hs _).mono ?_
    rintro e w1 ⟨rfl, b1⟩
    have H1 := hid (kept2_on H0.out b1)
    clear b1 H0
    obtain ⟨⟨_, _, c0, c1, c2, c3, c4, c5⟩, h0, h1, h2, h3, h4, h5, h6⟩ := H1.out
    go_wp2_with fail
    refine (refbool_calls _ _).mono ?_
    rintro e w2 ⟨rfl, b2⟩
    have H2 := hid (kept2_on H1.out b2)
    clear b2 H1 c0 c1 c2 c3 c4 c5 h0 h1 h2 h3 h4 h5 h6
    obtain ⟨⟨_, _, c0, c1, c2, c3, c4, c5⟩, h0, h1, h2, h3, h4, h5, h6⟩ := H2.out
    go_wp2
    exact bodyPost_ret (ret_ve rfl rfl (put3_cells H2.out.2 _ _ _)) rfl ⟨rfl, put3 (kept2_below H2.out) (by omega) _ _ _⟩

theorem refbin_gt (n : Int) (s : ByteArray) (n' : Int) (s' : ByteArray) (most : Int) (w : World) :
    Calls Try.prog 17 #[.int .i64 8, .agg #[.int .i64 2, .int .i64 n, .string s], .agg #[.int .i64 2, .int .i64 n', .string s'], .int .i64 most] w fun e w' => e = .returned (.tuple #[.agg #[.int .i64 1, .int .i64 (bit (decide (n' < n))), .string ⟨#[]⟩], .int .i64 0]) ∧ Below w.heap.size w w' := by
  have H0 := hid (kept2_new w 2 n s 2 n' s' 23)
  · go_enter Try.func17, Try.ntmps17
    go_wp2_with fail
    refine (less_num n' s' 2 n s _).mono ?_
    rintro e w1 ⟨rfl, b1⟩
    have H1 := hid (kept2_on H0.out b1)
    clear b1 H0
    obtain ⟨⟨_, _, c0, c1, c2, c3, c4, c5⟩, h0, h1, h2, h3, h4, h5, h6⟩ := H1.out
    go_wp2_with fail
    refine (refbool_calls _ _).mono ?_
    rintro e w2 ⟨rfl, b2⟩
    have H2 := hid (kept2_on H1.out b2)
    clear b2 H1 c0 c1 c2 c3 c4 c5 h0 h1 h2 h3 h4 h5 h6
    obtain ⟨⟨_, _, c0, c1, c2, c3, c4, c5⟩, h0, h1, h2, h3, h4, h5, h6⟩ := H2.out
    go_wp2
    exact bodyPost_ret (ret_ve rfl rfl (put3_cells H2.out.2 _ _ _)) rfl ⟨rfl, put3 (kept2_below H2.out) (by omega) _ _ _⟩

theorem refbin_sgt (n : Int) (s : ByteArray) (n' : Int) (s' : ByteArray) (hs : s'.size ≤ 1000000) (most : Int) (w : World) :
    Calls Try.prog 17 #[.int .i64 8, .agg #[.int .i64 3, .int .i64 n, .string s], .agg #[.int .i64 3, .int .i64 n', .string s'], .int .i64 most] w fun e w' => e = .returned (.tuple #[.agg #[.int .i64 1, .int .i64 (bit (blt s' s)), .string ⟨#[]⟩], .int .i64 0]) ∧ Below w.heap.size w w' := by
  have H0 := hid (kept2_new w 3 n s 3 n' s' 23)
  · go_enter Try.func17, Try.ntmps17
    go_wp2_with fail
    refine (less_str n' s' 3 n s hs _).mono ?_
    rintro e w1 ⟨rfl, b1⟩
    have H1 := hid (kept2_on H0.out b1)
    clear b1 H0
    obtain ⟨⟨_, _, c0, c1, c2, c3, c4, c5⟩, h0, h1, h2, h3, h4, h5, h6⟩ := H1.out
    go_wp2_with fail
    refine (refbool_calls _ _).mono ?_
    rintro e w2 ⟨rfl, b2⟩
    have H2 := hid (kept2_on H1.out b2)
    clear b2 H1 c0 c1 c2 c3 c4 c5 h0 h1 h2 h3 h4 h5 h6
    obtain ⟨⟨_, _, c0, c1, c2, c3, c4, c5⟩, h0, h1, h2, h3, h4, h5, h6⟩ := H2.out
    go_wp2
    exact bodyPost_ret (ret_ve rfl rfl (put3_cells H2.out.2 _ _ _)) rfl ⟨rfl, put3 (kept2_below H2.out) (by omega) _ _ _⟩

theorem refbin_ge (n : Int) (s : ByteArray) (n' : Int) (s' : ByteArray) (most : Int) (w : World) :
    Calls Try.prog 17 #[.int .i64 9, .agg #[.int .i64 2, .int .i64 n, .string s], .agg #[.int .i64 2, .int .i64 n', .string s'], .int .i64 most] w fun e w' => e = .returned (.tuple #[.agg #[.int .i64 1, .int .i64 (bit (!(decide (n < n')))), .string ⟨#[]⟩], .int .i64 0]) ∧ Below w.heap.size w w' := by
  have H0 := hid (kept2_new w 2 n s 2 n' s' 23)
  · go_enter Try.func17, Try.ntmps17
    go_wp2_with fail
    refine (less_num n s 2 n' s' _).mono ?_
    rintro e w1 ⟨rfl, b1⟩
    have H1 := hid (kept2_on H0.out b1)
    clear b1 H0
    obtain ⟨⟨_, _, c0, c1, c2, c3, c4, c5⟩, h0, h1, h2, h3, h4, h5, h6⟩ := H1.out
    go_wp2_with fail
    refine (refbool_calls _ _).mono ?_
    rintro e w2 ⟨rfl, b2⟩
    have H2 := hid (kept2_on H1.out b2)
    clear b2 H1 c0 c1 c2 c3 c4 c5 h0 h1 h2 h3 h4 h5 h6
    obtain ⟨⟨_, _, c0, c1, c2, c3, c4, c5⟩, h0, h1, h2, h3, h4, h5, h6⟩ := H2.out
    go_wp2
    exact bodyPost_ret (ret_ve rfl rfl (put3_cells H2.out.2 _ _ _)) rfl ⟨rfl, put3 (kept2_below H2.out) (by omega) _ _ _⟩

theorem refbin_sge (n : Int) (s : ByteArray) (n' : Int) (s' : ByteArray) (hs : s.size ≤ 1000000) (most : Int) (w : World) :
    Calls Try.prog 17 #[.int .i64 9, .agg #[.int .i64 3, .int .i64 n, .string s], .agg #[.int .i64 3, .int .i64 n', .string s'], .int .i64 most] w fun e w' => e = .returned (.tuple #[.agg #[.int .i64 1, .int .i64 (bit (!(blt s s'))), .string ⟨#[]⟩], .int .i64 0]) ∧ Below w.heap.size w w' := by
  have H0 := hid (kept2_new w 3 n s 3 n' s' 23)
  · go_enter Try.func17, Try.ntmps17
    go_wp2_with fail
    refine (less_str n s 3 n' s' hs _).mono ?_
    rintro e w1 ⟨rfl, b1⟩
    have H1 := hid (kept2_on H0.out b1)
    clear b1 H0
    obtain ⟨⟨_, _, c0, c1, c2, c3, c4, c5⟩, h0, h1, h2, h3, h4, h5, h6⟩ := H1.out
    go_wp2_with fail
    refine (refbool_calls _ _).mono ?_
    rintro e w2 ⟨rfl, b2⟩
    have H2 := hid (kept2_on H1.out b2)
    clear b2 H1 c0 c1 c2 c3 c4 c5 h0 h1 h2 h3 h4 h5 h6
    obtain ⟨⟨_, _, c0, c1, c2, c3, c4, c5⟩, h0, h1, h2, h3, h4, h5, h6⟩ := H2.out
    go_wp2
    exact bodyPost_ret (ret_ve rfl rfl (put3_cells H2.out.2 _ _ _)) rfl ⟨rfl, put3 (kept2_below H2.out) (by omega) _ _ _⟩

theorem refbin_cat (n : Int) (s : ByteArray) (n' : Int) (s' : ByteArray) (hs : s.size ≤ 1000000) (hs' : s'.size ≤ 1000000) (most : Int) (hm : (s.size : Int) + (s'.size : Int) ≤ most) (w : World) :
    Calls Try.prog 17 #[.int .i64 1, .agg #[.int .i64 3, .int .i64 n, .string s], .agg #[.int .i64 3, .int .i64 n', .string s'], .int .i64 most] w fun e w' => e = .returned (.tuple #[.agg #[.int .i64 3, .int .i64 0, .string (s ++ s')], .int .i64 0]) ∧ Below w.heap.size w w' := by
  · go_enter Try.func17, Try.ntmps17
    go_wp2
    exact bodyPost_ret (ret_ve rfl rfl (new_cells _ (by simp) _ _ _ _)) rfl ⟨rfl, (box2 _ _ _).alloc (by simp; omega) _⟩

theorem refbin_long (n : Int) (s : ByteArray) (n' : Int) (s' : ByteArray) (hs : s.size ≤ 1000000) (hs' : s'.size ≤ 1000000) (most : Int) (hm : most < (s.size : Int) + (s'.size : Int)) (w : World) :
    Calls Try.prog 17 #[.int .i64 1, .agg #[.int .i64 3, .int .i64 n, .string s], .agg #[.int .i64 3, .int .i64 n', .string s'], .int .i64 most] w fun e w' => e = .returned (.tuple #[.agg #[.int .i64 0, .int .i64 0, .string ⟨#[]⟩], .int .i64 43]) ∧ Below w.heap.size w w' := by
  have H0 := hid (kept2_new w 3 n s 3 n' s' 23)
  · go_enter Try.func17, Try.ntmps17
    go_wp2
    exact bodyPost_ret (ret_ve rfl rfl ⟨H0.out.2.2.1, H0.out.2.2.2.1, H0.out.2.2.2.2.1⟩) rfl ⟨rfl, kept2_below H0.out⟩

end Go.Proofs.Ytpagacgkcpgicaa
