/- What ops.Bin answers, by what its parts answer. -/
import Derived.Test.YtpagacgkcpgicaaOpsPart
import Derived.WalkMore
import Derived.ScopeJumps
namespace Go.Proofs.Ytpagacgkcpgicaa
open Go.RowKit

/-- a scope out of which the run jumps once, ahead, to a label -/
theorem wp_scope_once {P : Program} {a : Act} {w : World} {Q : Exit → Act → World → Prop} {c rest : Code} (l : Nat) (hf : findLabel c l = some rest)
    (first : c.wp P (Exit.jump l (fun a' w' => rest.wp P (Exit.noGoto Q) a' w') Q) a w) : (Code.scope c).wp P Q a w :=
  wp_scope_jumps l (fun a' w' => rest.wp P (Exit.noGoto Q) a' w') (fun _ _ => 0) hf first
    (fun _ _ h => Code.wp_mono (fun e _ _ hq => by cases e <;> first | exact hq | exact hq.elim) h)

theorem bin_add (k n : Int) (s : ByteArray) (k' n' : Int) (s' : ByteArray) (most x y e0 : Int) (z : ByteArray)
    (hp : ∀ w, Calls Try.prog 35 #[.agg #[.int .i64 k, .int .i64 n, .string s], .agg #[.int .i64 k', .int .i64 n', .string s'], .int .i64 most] w fun e w' => e = .returned (.tuple #[.agg #[.int .i64 x, .int .i64 y, .string z], .int .i64 e0]) ∧ Below w.heap.size w w') (w : World) :
    Calls Try.prog 16 #[.int .i64 1, .agg #[.int .i64 k, .int .i64 n, .string s], .agg #[.int .i64 k', .int .i64 n', .string s'], .int .i64 most] w fun e w' => e = .returned (.tuple #[.agg #[.int .i64 x, .int .i64 y, .string z], .int .i64 e0]) ∧ Below w.heap.size w w' := by
  have H0 := hid (kept2_new w k n s k' n' s' 23)
  · go_enter Try.func16, Try.ntmps16
    go_wp2_with fail
    go_step3
    go_wp2_with fail
    refine (hp _).mono ?_
    rintro e w1 ⟨rfl, b1⟩
    have H1 := hid (kept2_on H0.out b1)
    clear b1 H0
    obtain ⟨⟨_, _, c0, c1, c2, c3, c4, c5⟩, h0, h1, h2, h3, h4, h5, h6⟩ := H1.out
    go_wp2
    rw [Exit.noGoto_ret]
    exact bodyPost_ret (ret_ve rfl rfl (put3_cells H1.out.2 _ _ _)) rfl ⟨rfl, put3 (kept2_below H1.out) (by omega) _ _ _⟩

theorem bin_reckon (op : Int) (ho : op = 2 ∨ op = 3 ∨ op = 4 ∨ op = 5) (k n : Int) (s : ByteArray) (k' n' : Int) (s' : ByteArray) (most x y e0 : Int) (z : ByteArray)
    (hp : ∀ w, Calls Try.prog 36 #[.int .i64 op, .agg #[.int .i64 k, .int .i64 n, .string s], .agg #[.int .i64 k', .int .i64 n', .string s']] w fun e w' => e = .returned (.tuple #[.agg #[.int .i64 x, .int .i64 y, .string z], .int .i64 e0]) ∧ Below w.heap.size w w') (w : World) :
    Calls Try.prog 16 #[.int .i64 op, .agg #[.int .i64 k, .int .i64 n, .string s], .agg #[.int .i64 k', .int .i64 n', .string s'], .int .i64 most] w fun e w' => e = .returned (.tuple #[.agg #[.int .i64 x, .int .i64 y, .string z], .int .i64 e0]) ∧ Below w.heap.size w w' := by
  have H0 := hid (kept2_new w k n s k' n' s' 23)
  rcases ho with rfl | rfl | rfl | rfl
  · go_enter Try.func16, Try.ntmps16
    go_wp2_with fail
    go_step3
    go_wp2_with fail
    refine (hp _).mono ?_
    rintro e w1 ⟨rfl, b1⟩
    have H1 := hid (kept2_on H0.out b1)
    clear b1 H0
    obtain ⟨⟨_, _, c0, c1, c2, c3, c4, c5⟩, h0, h1, h2, h3, h4, h5, h6⟩ := H1.out
    go_wp2
    rw [Exit.noGoto_ret]
    exact bodyPost_ret (ret_ve rfl rfl (put3_cells H1.out.2 _ _ _)) rfl ⟨rfl, put3 (kept2_below H1.out) (by omega) _ _ _⟩
  · go_enter Try.func16, Try.ntmps16
    go_wp2_with fail
    go_step3
    go_wp2_with fail
    refine (hp _).mono ?_
    rintro e w1 ⟨rfl, b1⟩
    have H1 := hid (kept2_on H0.out b1)
    clear b1 H0
    obtain ⟨⟨_, _, c0, c1, c2, c3, c4, c5⟩, h0, h1, h2, h3, h4, h5, h6⟩ := H1.out
    go_wp2
    rw [Exit.noGoto_ret]
    exact bodyPost_ret (ret_ve rfl rfl (put3_cells H1.out.2 _ _ _)) rfl ⟨rfl, put3 (kept2_below H1.out) (by omega) _ _ _⟩
  · go_enter Try.func16, Try.ntmps16
    go_wp2_with fail
    go_step3
    go_wp2_with fail
    refine (hp _).mono ?_
    rintro e w1 ⟨rfl, b1⟩
    have H1 := hid (kept2_on H0.out b1)
    clear b1 H0
    obtain ⟨⟨_, _, c0, c1, c2, c3, c4, c5⟩, h0, h1, h2, h3, h4, h5, h6⟩ := H1.out
    go_wp2
    rw [Exit.noGoto_ret]
    exact bodyPost_ret (ret_ve rfl rfl (put3_cells H1.out.2 _ _ _)) rfl ⟨rfl, put3 (kept2_below H1.out) (by omega) _ _ _⟩
  · go_enter Try.func16, Try.ntmps16
    go_wp2_with fail
    go_step3
    go_wp2_with fail
    refine (hp _).mono ?_
    rintro e w1 ⟨rfl, b1⟩
    have H1 := hid (kept2_on H0.out b1)
    clear b1 H0
    obtain ⟨⟨_, _, c0, c1, c2, c3, c4, c5⟩, h0, h1, h2, h3, h4, h5, h6⟩ := H1.out
    go_wp2
    rw [Exit.noGoto_ret]
    exact bodyPost_ret (ret_ve rfl rfl (put3_cells H1.out.2 _ _ _)) rfl ⟨rfl, put3 (kept2_below H1.out) (by omega) _ _ _⟩

theorem bin_eq (k n : Int) (s : ByteArray) (k' n' : Int) (s' : ByteArray) (most : Int) (w : World) :
    Calls Try.prog 16 #[.int .i64 10, .agg #[.int .i64 k, .int .i64 n, .string s], .agg #[.int .i64 k', .int .i64 n', .string s'], .int .i64 most] w fun e w' => e = .returned (.tuple #[.agg #[.int .i64 1, .int .i64 (bit (alike k n s.data.toList k' n' s'.data.toList)), .string ⟨#[]⟩], .int .i64 0]) ∧ Below w.heap.size w w' := by
  have H0 := hid (kept2_new w k n s k' n' s' 23)
  · go_enter Try.func16, Try.ntmps16
    go_wp2_with fail
    go_step3
    go_wp2_with fail
    refine (same_calls k n s k' n' s' _).mono ?_
    rintro e w1 ⟨rfl, b1⟩
    have H1 := hid (kept2_on H0.out b1)
    clear b1 H0
    obtain ⟨⟨_, _, c0, c1, c2, c3, c4, c5⟩, h0, h1, h2, h3, h4, h5, h6⟩ := H1.out
    go_wp2_with fail
    refine (bool_calls _ _).mono ?_
    rintro e w2 ⟨rfl, b2⟩
    have H2 := hid (kept2_on H1.out b2)
    clear b2 H1 c0 c1 c2 c3 c4 c5 h0 h1 h2 h3 h4 h5 h6
    obtain ⟨⟨_, _, c0, c1, c2, c3, c4, c5⟩, h0, h1, h2, h3, h4, h5, h6⟩ := H2.out
    go_wp2
    rw [Exit.noGoto_ret]
    exact bodyPost_ret (ret_ve rfl rfl (put3_cells H2.out.2 _ _ _)) rfl ⟨rfl, put3 (kept2_below H2.out) (by omega) _ _ _⟩

theorem bin_ne (k n : Int) (s : ByteArray) (k' n' : Int) (s' : ByteArray) (most : Int) (w : World) :
    Calls Try.prog 16 #[.int .i64 11, .agg #[.int .i64 k, .int .i64 n, .string s], .agg #[.int .i64 k', .int .i64 n', .string s'], .int .i64 most] w fun e w' => e = .returned (.tuple #[.agg #[.int .i64 1, .int .i64 (bit (!alike k n s.data.toList k' n' s'.data.toList)), .string ⟨#[]⟩], .int .i64 0]) ∧ Below w.heap.size w w' := by
  have H0 := hid (kept2_new w k n s k' n' s' 23)
  · go_enter Try.func16, Try.ntmps16
    go_wp2_with fail
    go_step3
    go_wp2_with fail
    refine (same_calls k n s k' n' s' _).mono ?_
    rintro e w1 ⟨rfl, b1⟩
    have H1 := hid (kept2_on H0.out b1)
    clear b1 H0
    obtain ⟨⟨_, _, c0, c1, c2, c3, c4, c5⟩, h0, h1, h2, h3, h4, h5, h6⟩ := H1.out
    go_wp2_with fail
    refine (bool_calls _ _).mono ?_
    rintro e w2 ⟨rfl, b2⟩
    have H2 := hid (kept2_on H1.out b2)
    clear b2 H1 c0 c1 c2 c3 c4 c5 h0 h1 h2 h3 h4 h5 h6
    obtain ⟨⟨_, _, c0, c1, c2, c3, c4, c5⟩, h0, h1, h2, h3, h4, h5, h6⟩ := H2.out
    go_wp2
    rw [Exit.noGoto_ret]
    exact bodyPost_ret (ret_ve rfl rfl (put3_cells H2.out.2 _ _ _)) rfl ⟨rfl, put3 (kept2_below H2.out) (by omega) _ _ _⟩

theorem bin_none (op : Int) (ho : op < 1 ∨ 11 < op) (k n : Int) (s : ByteArray) (k' n' : Int) (s' : ByteArray) (most : Int) (w : World) :
    Calls Try.prog 16 #[.int .i64 op, .agg #[.int .i64 k, .int .i64 n, .string s], .agg #[.int .i64 k', .int .i64 n', .string s'], .int .i64 most] w fun e w' => e = .returned (.tuple #[.agg #[.int .i64 0, .int .i64 0, .string ⟨#[]⟩], .int .i64 2]) ∧ Below w.heap.size w w' := by
  have o1 : (op == 1) = false := beq_eq_false_iff_ne.2 (by omega)
  have o2 : (op == 2) = false := beq_eq_false_iff_ne.2 (by omega)
  have o3 : (op == 3) = false := beq_eq_false_iff_ne.2 (by omega)
  have o4 : (op == 4) = false := beq_eq_false_iff_ne.2 (by omega)
  have o5 : (op == 5) = false := beq_eq_false_iff_ne.2 (by omega)
  have o6 : (op == 6) = false := beq_eq_false_iff_ne.2 (by omega)
  have o7 : (op == 7) = false := beq_eq_false_iff_ne.2 (by omega)
  have o8 : (op == 8) = false := beq_eq_false_iff_ne.2 (by omega)
  have o9 : (op == 9) = false := beq_eq_false_iff_ne.2 (by omega)
  have o10 : (op == 10) = false := beq_eq_false_iff_ne.2 (by omega)
  have o11 : (op == 11) = false := beq_eq_false_iff_ne.2 (by omega)
  have H0 := hid (kept2_new w k n s k' n' s' 23)
  clear ho
  · go_enter Try.func16, Try.ntmps16
    go_wp2_with fail
    go_step3
    go_wp2
    rw [Exit.noGoto_ret]
    exact bodyPost_ret (ret_ve rfl rfl ⟨H0.out.2.2.1, H0.out.2.2.2.1, H0.out.2.2.2.2.1⟩) rfl ⟨rfl, kept2_below H0.out⟩

theorem bin_lt (k n : Int) (s : ByteArray) (k' n' : Int) (s' : ByteArray) (most : Int) (t : Bool)
    (hp : ∀ w, Calls Try.prog 38 #[.agg #[.int .i64 k, .int .i64 n, .string s], .agg #[.int .i64 k', .int .i64 n', .string s']] w fun e w' => e = .returned (.tuple #[.bool t, .int .i64 0]) ∧ Below w.heap.size w w') (w : World) :
    Calls Try.prog 16 #[.int .i64 6, .agg #[.int .i64 k, .int .i64 n, .string s], .agg #[.int .i64 k', .int .i64 n', .string s'], .int .i64 most] w fun e w' => e = .returned (.tuple #[.agg #[.int .i64 1, .int .i64 (bit t), .string ⟨#[]⟩], .int .i64 0]) ∧ Below w.heap.size w w' := by
  have H0 := hid (kept2_new w k n s k' n' s' 23)
  · go_enter Try.func16, Try.ntmps16
    go_wp2_with fail
    refine wp_scope_once 0 rfl ?_
    go_hide hQ
    go_wp2_with fail
    go_step3
    subst hQ
    refine ⟨rfl, ?_⟩
    go_wp2_with fail
    refine (hp _).mono ?_
    rintro e w1 ⟨rfl, b1⟩
    have H1 := hid (kept2_on H0.out b1)
    clear b1 H0
    obtain ⟨⟨_, _, c0, c1, c2, c3, c4, c5⟩, h0, h1, h2, h3, h4, h5, h6⟩ := H1.out
    go_wp2_with fail
    refine (bool_calls _ _).mono ?_
    rintro e w2 ⟨rfl, b2⟩
    have H2 := hid (kept2_on H1.out b2)
    clear b2 H1 c0 c1 c2 c3 c4 c5 h0 h1 h2 h3 h4 h5 h6
    obtain ⟨⟨_, _, c0, c1, c2, c3, c4, c5⟩, h0, h1, h2, h3, h4, h5, h6⟩ := H2.out
    go_wp2
    rw [Exit.noGoto_ret]
    exact bodyPost_ret (ret_ve rfl rfl (put3_cells H2.out.2 _ _ _)) rfl ⟨rfl, put3 (kept2_below H2.out) (by omega) _ _ _⟩

theorem bin_lt_type (k n : Int) (s : ByteArray) (k' n' : Int) (s' : ByteArray) (most : Int)
    (hp : ∀ w, Calls Try.prog 38 #[.agg #[.int .i64 k, .int .i64 n, .string s], .agg #[.int .i64 k', .int .i64 n', .string s']] w fun e w' => e = .returned (.tuple #[.bool false, .int .i64 30]) ∧ Below w.heap.size w w') (w : World) :
    Calls Try.prog 16 #[.int .i64 6, .agg #[.int .i64 k, .int .i64 n, .string s], .agg #[.int .i64 k', .int .i64 n', .string s'], .int .i64 most] w fun e w' => e = .returned (.tuple #[.agg #[.int .i64 0, .int .i64 0, .string ⟨#[]⟩], .int .i64 30]) ∧ Below w.heap.size w w' := by
  have H0 := hid (kept2_new w k n s k' n' s' 23)
  · go_enter Try.func16, Try.ntmps16
    go_wp2_with fail
    refine wp_scope_once 0 rfl ?_
    go_hide hQ
    go_wp2_with fail
    go_step3
    subst hQ
    refine ⟨rfl, ?_⟩
    go_wp2_with fail
    refine (hp _).mono ?_
    rintro e w1 ⟨rfl, b1⟩
    have H1 := hid (kept2_on H0.out b1)
    clear b1 H0
    obtain ⟨⟨_, _, c0, c1, c2, c3, c4, c5⟩, h0, h1, h2, h3, h4, h5, h6⟩ := H1.out
    go_wp2
    rw [Exit.noGoto_ret]
    exact bodyPost_ret (ret_ve rfl rfl (put3_cells H1.out.2 _ _ _)) rfl ⟨rfl, put3 (kept2_below H1.out) (by omega) _ _ _⟩

theorem bin_le (k n : Int) (s : ByteArray) (k' n' : Int) (s' : ByteArray) (most : Int) (t : Bool)
    (hp : ∀ w, Calls Try.prog 38 #[.agg #[.int .i64 k', .int .i64 n', .string s'], .agg #[.int .i64 k, .int .i64 n, .string s]] w fun e w' => e = .returned (.tuple #[.bool t, .int .i64 0]) ∧ Below w.heap.size w w') (w : World) :
    Calls Try.prog 16 #[.int .i64 7, .agg #[.int .i64 k, .int .i64 n, .string s], .agg #[.int .i64 k', .int .i64 n', .string s'], .int .i64 most] w fun e w' => e = .returned (.tuple #[.agg #[.int .i64 1, .int .i64 (bit (!t)), .string ⟨#[]⟩], .int .i64 0]) ∧ Below w.heap.size w w' := by
  have H0 := hid (kept2_new w k' n' s' k n s 23)
  · go_enter Try.func16, Try.ntmps16
    go_wp2_with fail
    refine wp_scope_once 0 rfl ?_
    go_hide hQ
    go_wp2_with fail
    go_step3
    subst hQ
    refine ⟨rfl, ?_⟩
    go_wp2_with fail
    refine (hp _).mono ?_
    rintro e w1 ⟨rfl, b1⟩
    have H1 := hid (kept2_on H0.out b1)
    clear b1 H0
    obtain ⟨⟨_, _, c0, c1, c2, c3, c4, c5⟩, h0, h1, h2, h3, h4, h5, h6⟩ := H1.out
    go_wp2_with fail
    refine (bool_calls _ _).mono ?_
    rintro e w2 ⟨rfl, b2⟩
    have H2 := hid (kept2_on H1.out b2)
    clear b2 H1 c0 c1 c2 c3 c4 c5 h0 h1 h2 h3 h4 h5 h6
    obtain ⟨⟨_, _, c0, c1, c2, c3, c4, c5⟩, h0, h1, h2, h3, h4, h5, h6⟩ := H2.out
    go_wp2
    rw [Exit.noGoto_ret]
    exact bodyPost_ret (ret_ve rfl rfl (put3_cells H2.out.2 _ _ _)) rfl ⟨rfl, put3 (kept2_below H2.out) (by omega) _ _ _⟩

theorem bin_le_type (k n : Int) (s : ByteArray) (k' n' : Int) (s' : ByteArray) (most : Int)
    (hp : ∀ w, Calls Try.prog 38 #[.agg #[.int .i64 k', .int .i64 n', .string s'], .agg #[.int .i64 k, .int .i64 n, .string s]] w fun e w' => e = .returned (.tuple #[.bool false, .int .i64 30]) ∧ Below w.heap.size w w') (w : World) :
    Calls Try.prog 16 #[.int .i64 7, .agg #[.int .i64 k, .int .i64 n, .string s], .agg #[.int .i64 k', .int .i64 n', .string s'], .int .i64 most] w fun e w' => e = .returned (.tuple #[.agg #[.int .i64 0, .int .i64 0, .string ⟨#[]⟩], .int .i64 30]) ∧ Below w.heap.size w w' := by
  have H0 := hid (kept2_new w k' n' s' k n s 23)
  · go_enter Try.func16, Try.ntmps16
    go_wp2_with fail
    refine wp_scope_once 0 rfl ?_
    go_hide hQ
    go_wp2_with fail
    go_step3
    subst hQ
    refine ⟨rfl, ?_⟩
    go_wp2_with fail
    refine (hp _).mono ?_
    rintro e w1 ⟨rfl, b1⟩
    have H1 := hid (kept2_on H0.out b1)
    clear b1 H0
    obtain ⟨⟨_, _, c0, c1, c2, c3, c4, c5⟩, h0, h1, h2, h3, h4, h5, h6⟩ := H1.out
    go_wp2
    rw [Exit.noGoto_ret]
    exact bodyPost_ret (ret_ve rfl rfl (put3_cells H1.out.2 _ _ _)) rfl ⟨rfl, put3 (kept2_below H1.out) (by omega) _ _ _⟩

theorem bin_gt (k n : Int) (s : ByteArray) (k' n' : Int) (s' : ByteArray) (most : Int) (t : Bool)
    (hp : ∀ w, Calls Try.prog 38 #[.agg #[.int .i64 k', .int .i64 n', .string s'], .agg #[.int .i64 k, .int .i64 n, .string s]] w fun e w' => e = .returned (.tuple #[.bool t, .int .i64 0]) ∧ Below w.heap.size w w') (w : World) :
    Calls Try.prog 16 #[.int .i64 8, .agg #[.int .i64 k, .int .i64 n, .string s], .agg #[.int .i64 k', .int .i64 n', .string s'], .int .i64 most] w fun e w' => e = .returned (.tuple #[.agg #[.int .i64 1, .int .i64 (bit t), .string ⟨#[]⟩], .int .i64 0]) ∧ Below w.heap.size w w' := by
  have H0 := hid (kept2_new w k' n' s' k n s 23)
  · go_enter Try.func16, Try.ntmps16
    go_wp2_with fail
    refine wp_scope_once 0 rfl ?_
    go_hide hQ
    go_wp2_with fail
    go_step3
    subst hQ
    refine ⟨rfl, ?_⟩
    go_wp2_with fail
    refine (hp _).mono ?_
    rintro e w1 ⟨rfl, b1⟩
    have H1 := hid (kept2_on H0.out b1)
    clear b1 H0
    obtain ⟨⟨_, _, c0, c1, c2, c3, c4, c5⟩, h0, h1, h2, h3, h4, h5, h6⟩ := H1.out
    go_wp2_with fail
    refine (bool_calls _ _).mono ?_
    rintro e w2 ⟨rfl, b2⟩
    have H2 := hid (kept2_on H1.out b2)
    clear b2 H1 c0 c1 c2 c3 c4 c5 h0 h1 h2 h3 h4 h5 h6
    obtain ⟨⟨_, _, c0, c1, c2, c3, c4, c5⟩, h0, h1, h2, h3, h4, h5, h6⟩ := H2.out
    go_wp2
    rw [Exit.noGoto_ret]
    exact bodyPost_ret (ret_ve rfl rfl (put3_cells H2.out.2 _ _ _)) rfl ⟨rfl, put3 (kept2_below H2.out) (by omega) _ _ _⟩

theorem bin_gt_type (k n : Int) (s : ByteArray) (k' n' : Int) (s' : ByteArray) (most : Int)
    (hp : ∀ w, Calls Try.prog 38 #[.agg #[.int .i64 k', .int .i64 n', .string s'], .agg #[.int .i64 k, .int .i64 n, .string s]] w fun e w' => e = .returned (.tuple #[.bool false, .int .i64 30]) ∧ Below w.heap.size w w') (w : World) :
    Calls Try.prog 16 #[.int .i64 8, .agg #[.int .i64 k, .int .i64 n, .string s], .agg #[.int .i64 k', .int .i64 n', .string s'], .int .i64 most] w fun e w' => e = .returned (.tuple #[.agg #[.int .i64 0, .int .i64 0, .string ⟨#[]⟩], .int .i64 30]) ∧ Below w.heap.size w w' := by
  have H0 := hid (kept2_new w k' n' s' k n s 23)
  · go_enter Try.func16, Try.ntmps16
    go_wp2_with fail
    refine wp_scope_once 0 rfl ?_
    go_hide hQ
    go_wp2_with fail
    go_step3
    subst hQ
    refine ⟨rfl, ?_⟩
    go_wp2_with fail
    refine (hp _).mono ?_
    rintro e w1 ⟨rfl, b1⟩
    have H1 := hid (kept2_on H0.out b1)
    clear b1 H0
    obtain ⟨⟨_, _, c0, c1, c2, c3, c4, c5⟩, h0, h1, h2, h3, h4, h5, h6⟩ := H1.out
    go_wp2
    rw [Exit.noGoto_ret]
    exact bodyPost_ret (ret_ve rfl rfl (put3_cells H1.out.2 _ _ _)) rfl ⟨rfl, put3 (kept2_below H1.out) (by omega) _ _ _⟩

theorem bin_ge (k n : Int) (s : ByteArray) (k' n' : Int) (s' : ByteArray) (most : Int) (t : Bool)
    (hp : ∀ w, Calls Try.prog 38 #[.agg #[.int .i64 k, .int .i64 n, .string s], .agg #[.int .i64 k', .int .i64 n', .string s']] w fun e w' => e = .returned (.tuple #[.bool t, .int .i64 0]) ∧ Below w.heap.size w w') (w : World) :
    Calls Try.prog 16 #[.int .i64 9, .agg #[.int .i64 k, .int .i64 n, .string s], .agg #[.int .i64 k', .int .i64 n', .string s'], .int .i64 most] w fun e w' => e = .returned (.tuple #[.agg #[.int .i64 1, .int .i64 (bit (!t)), .string ⟨#[]⟩], .int .i64 0]) ∧ Below w.heap.size w w' := by
  have H0 := hid (kept2_new w k n s k' n' s' 23)
  · go_enter Try.func16, Try.ntmps16
    go_wp2_with fail
    refine wp_scope_once 0 rfl ?_
    go_hide hQ
    go_wp2_with fail
    go_step3
    subst hQ
    refine ⟨rfl, ?_⟩
    go_wp2_with fail
    refine (hp _).mono ?_
    rintro e w1 ⟨rfl, b1⟩
    have H1 := hid (kept2_on H0.out b1)
    clear b1 H0
    obtain ⟨⟨_, _, c0, c1, c2, c3, c4, c5⟩, h0, h1, h2, h3, h4, h5, h6⟩ := H1.out
    go_wp2_with fail
    refine (bool_calls _ _).mono ?_
    rintro e w2 ⟨rfl, b2⟩
    have H2 := hid (kept2_on H1.out b2)
    clear b2 H1 c0 c1 c2 c3 c4 c5 h0 h1 h2 h3 h4 h5 h6
    obtain ⟨⟨_, _, c0, c1, c2, c3, c4, c5⟩, h0, h1, h2, h3, h4, h5, h6⟩ := H2.out
    go_wp2
    rw [Exit.noGoto_ret]
    exact bodyPost_ret (ret_ve rfl rfl (put3_cells H2.out.2 _ _ _)) rfl ⟨rfl, put3 (kept2_below H2.out) (by omega) _ _ _⟩

theorem bin_ge_type (k n : Int) (s : ByteArray) (k' n' : Int) (s' : ByteArray) (most : Int)
    (hp : ∀ w, Calls Try.prog 38 #[.agg #[.int .i64 k, .int .i64 n, .string s], .agg #[.int .i64 k', .int .i64 n', .string s']] w fun e w' => e = .returned (.tuple #[.bool false, .int .i64 30]) ∧ Below w.heap.size w w') (w : World) :
    Calls Try.prog 16 #[.int .i64 9, .agg #[.int .i64 k, .int .i64 n, .string s], .agg #[.int .i64 k', .int .i64 n', .string s'], .int .i64 most] w fun e w' => e = .returned (.tuple #[.agg #[.int .i64 0, .int .i64 0, .string ⟨#[]⟩], .int .i64 30]) ∧ Below w.heap.size w w' := by
  have H0 := hid (kept2_new w k n s k' n' s' 23)
  · go_enter Try.func16, Try.ntmps16
    go_wp2_with fail
    refine wp_scope_once 0 rfl ?_
    go_hide hQ
    go_wp2_with fail
    go_step3
    subst hQ
    refine ⟨rfl, ?_⟩
    go_wp2_with fail
    refine (hp _).mono ?_
    rintro e w1 ⟨rfl, b1⟩
    have H1 := hid (kept2_on H0.out b1)
    clear b1 H0
    obtain ⟨⟨_, _, c0, c1, c2, c3, c4, c5⟩, h0, h1, h2, h3, h4, h5, h6⟩ := H1.out
    go_wp2
    rw [Exit.noGoto_ret]
    exact bodyPost_ret (ret_ve rfl rfl (put3_cells H1.out.2 _ _ _)) rfl ⟨rfl, put3 (kept2_below H1.out) (by omega) _ _ _⟩

end Go.Proofs.Ytpagacgkcpgicaa
