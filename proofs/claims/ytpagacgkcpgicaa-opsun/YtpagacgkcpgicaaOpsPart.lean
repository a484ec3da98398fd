/- What ops' parts of Bin answer: sums, what is reckoned, and which is ahead. -/
import Derived.Test.YtpagacgkcpgicaaOpsLess
namespace Go.Proofs.Ytpagacgkcpgicaa
open Go.RowKit

/-- two values in blocks of a call's own, and behind them a fresh one for its answer -/
def Kept2 (w : World) (k n : Int) (s : ByteArray) (k' n' : Int) (s' : ByteArray) (w1 : World) : Prop :=
  (w.heap.size + 2 ≤ w1.heap.size ∧ Below w.heap.size w w1 ∧
      w1.cell? ⟨w.heap.size, 0, none⟩ = some (.int .i64 k) ∧ w1.cell? ⟨w.heap.size, 1, none⟩ = some (.int .i64 n) ∧ w1.cell? ⟨w.heap.size, 2, none⟩ = some (.string s) ∧
      w1.cell? ⟨w.heap.size + 1, 0, none⟩ = some (.int .i64 k') ∧ w1.cell? ⟨w.heap.size + 1, 1, none⟩ = some (.int .i64 n') ∧ w1.cell? ⟨w.heap.size + 1, 2, none⟩ = some (.string s')) ∧
    Slot (w.heap.size + 2) w1

theorem kept2_on {w : World} {k n : Int} {s : ByteArray} {k' n' : Int} {s' : ByteArray} {a b : World} (h : Kept2 w k n s k' n' s' a) (q : Below a.heap.size a b) : Kept2 w k n s k' n' s' b :=
  ⟨held2_on h.1 q, slot_on h.2 q⟩

theorem kept2_new (w : World) (k n : Int) (s : ByteArray) (k' n' : Int) (s' : ByteArray) (t : TypeId) : Kept2 w k n s k' n' s'
    (((w.alloc (Obj.cells #[.int .i64 k, .int .i64 n, .string s] t)).alloc (Obj.cells #[.int .i64 k', .int .i64 n', .string s'] t)).alloc (Obj.cells #[.int .i64 0, .int .i64 0, .string ⟨#[]⟩] t)) :=
  ⟨held2_on (held2p w _ _ _ _ _ _ t t) (box1 _ _), slot_new _ (by simp) t⟩

theorem kept2_below {w : World} {k n : Int} {s : ByteArray} {k' n' : Int} {s' : ByteArray} {a : World} (h : Kept2 w k n s k' n' s' a) : Below w.heap.size w a := h.1.2.1

theorem opsadd_num (n : Int) (s : ByteArray) (n' : Int) (s' : ByteArray) (most : Int) (w : World) :
    Calls Try.prog 35 #[.agg #[.int .i64 2, .int .i64 n, .string s], .agg #[.int .i64 2, .int .i64 n', .string s'], .int .i64 most] w fun e w' => e = .returned (.tuple #[.agg #[.int .i64 2, .int .i64 (W63 (n + n')), .string ⟨#[]⟩], .int .i64 0]) ∧ Below w.heap.size w w' := by
  have H0 := hid (kept2_new w 2 n s 2 n' s' 23)
  go_enter Try.func35, Try.ntmps35
  go_wp2_with fail
  refine (both_calls _ _ _ _ _ _ _ _).mono ?_
  rintro e w1 ⟨rfl, b1⟩
  have H1 := hid (kept2_on H0.out b1)
  clear b1 H0
  obtain ⟨⟨_, _, c0, c1, c2, c3, c4, c5⟩, h0, h1, h2, h3, h4, h5, h6⟩ := H1.out
  rw [show ((2 : Int) == 2 && (2 : Int) == 2) = true from rfl]
  go_wp2_with fail
  refine (add_calls n n' _).mono ?_
  rintro e wx ⟨rfl, rfl⟩
  go_wp2_with fail
  refine (whole_calls _ _).mono ?_
  rintro e w2 ⟨rfl, b2⟩
  have H2 := hid (kept2_on H1.out b2)
  clear b2 H1 c0 c1 c2 c3 c4 c5 h0 h1 h2 h3 h4 h5 h6
  obtain ⟨⟨_, _, c0, c1, c2, c3, c4, c5⟩, h0, h1, h2, h3, h4, h5, h6⟩ := H2.out
  go_wp2
  exact bodyPost_ret (ret_ve rfl rfl (put3_cells H2.out.2 _ _ _)) rfl ⟨rfl, put3 (kept2_below H2.out) (by omega) _ _ _⟩

theorem opsadd_str (n : Int) (s : ByteArray) (n' : Int) (s' : ByteArray) (most : Int) (hs : s.size ≤ 1000000) (hs' : s'.size ≤ 1000000) (hm : (s.size : Int) + (s'.size : Int) ≤ most) (w : World) :
    Calls Try.prog 35 #[.agg #[.int .i64 3, .int .i64 n, .string s], .agg #[.int .i64 3, .int .i64 n', .string s'], .int .i64 most] w fun e w' => e = .returned (.tuple #[.agg #[.int .i64 3, .int .i64 0, .string (s ++ s')], .int .i64 0]) ∧ Below w.heap.size w w' := by
  have H0 := hid (kept2_new w 3 n s 3 n' s' 23)
  go_enter Try.func35, Try.ntmps35
  go_wp2_with fail
  refine (both_calls _ _ _ _ _ _ _ _).mono ?_
  rintro e w1 ⟨rfl, b1⟩
  have H1 := hid (kept2_on H0.out b1)
  clear b1 H0
  obtain ⟨⟨_, _, c0, c1, c2, c3, c4, c5⟩, h0, h1, h2, h3, h4, h5, h6⟩ := H1.out
  rw [show ((3 : Int) == 2 && (3 : Int) == 2) = false from rfl]
  go_wp2_with fail
  refine (both_calls _ _ _ _ _ _ _ _).mono ?_
  rintro e w2 ⟨rfl, b2⟩
  have H2 := hid (kept2_on H1.out b2)
  clear b2 H1 c0 c1 c2 c3 c4 c5 h0 h1 h2 h3 h4 h5 h6
  obtain ⟨⟨_, _, c0, c1, c2, c3, c4, c5⟩, h0, h1, h2, h3, h4, h5, h6⟩ := H2.out
  rw [show ((3 : Int) == 3 && (3 : Int) == 3) = true from rfl]
  go_wp2_with fail
  refine (str_calls _ _).mono ?_
  rintro e w3 ⟨rfl, b3⟩
  have H3 := hid (kept2_on H2.out b3)
  clear b3 H2 c0 c1 c2 c3 c4 c5 h0 h1 h2 h3 h4 h5 h6
  obtain ⟨⟨_, _, c0, c1, c2, c3, c4, c5⟩, h0, h1, h2, h3, h4, h5, h6⟩ := H3.out
  go_wp2
  exact bodyPost_ret (ret_ve rfl rfl (put3_cells H3.out.2 _ _ _)) rfl ⟨rfl, put3 (kept2_below H3.out) (by omega) _ _ _⟩

theorem opsadd_long (n : Int) (s : ByteArray) (n' : Int) (s' : ByteArray) (most : Int) (hs : s.size ≤ 1000000) (hs' : s'.size ≤ 1000000) (hm : most < (s.size : Int) + (s'.size : Int)) (w : World) :
    Calls Try.prog 35 #[.agg #[.int .i64 3, .int .i64 n, .string s], .agg #[.int .i64 3, .int .i64 n', .string s'], .int .i64 most] w fun e w' => e = .returned (.tuple #[.agg #[.int .i64 0, .int .i64 0, .string ⟨#[]⟩], .int .i64 43]) ∧ Below w.heap.size w w' := by
  have H0 := hid (kept2_new w 3 n s 3 n' s' 23)
  go_enter Try.func35, Try.ntmps35
  go_wp2_with fail
  refine (both_calls _ _ _ _ _ _ _ _).mono ?_
  rintro e w1 ⟨rfl, b1⟩
  have H1 := hid (kept2_on H0.out b1)
  clear b1 H0
  obtain ⟨⟨_, _, c0, c1, c2, c3, c4, c5⟩, h0, h1, h2, h3, h4, h5, h6⟩ := H1.out
  rw [show ((3 : Int) == 2 && (3 : Int) == 2) = false from rfl]
  go_wp2_with fail
  refine (both_calls _ _ _ _ _ _ _ _).mono ?_
  rintro e w2 ⟨rfl, b2⟩
  have H2 := hid (kept2_on H1.out b2)
  clear b2 H1 c0 c1 c2 c3 c4 c5 h0 h1 h2 h3 h4 h5 h6
  obtain ⟨⟨_, _, c0, c1, c2, c3, c4, c5⟩, h0, h1, h2, h3, h4, h5, h6⟩ := H2.out
  rw [show ((3 : Int) == 3 && (3 : Int) == 3) = true from rfl]
  go_wp2
  exact bodyPost_ret (ret_ve rfl rfl (put3_cells H2.out.2 _ _ _)) rfl ⟨rfl, put3 (kept2_below H2.out) (by omega) _ _ _⟩

theorem opsadd_type (k n : Int) (s : ByteArray) (k' n' : Int) (s' : ByteArray) (most : Int) (h22 : (k == 2 && k' == 2) = false) (h33 : (k == 3 && k' == 3) = false) (w : World) :
    Calls Try.prog 35 #[.agg #[.int .i64 k, .int .i64 n, .string s], .agg #[.int .i64 k', .int .i64 n', .string s'], .int .i64 most] w fun e w' => e = .returned (.tuple #[.agg #[.int .i64 0, .int .i64 0, .string ⟨#[]⟩], .int .i64 30]) ∧ Below w.heap.size w w' := by
  have H0 := hid (kept2_new w k n s k' n' s' 23)
  go_enter Try.func35, Try.ntmps35
  go_wp2_with fail
  refine (both_calls _ _ _ _ _ _ _ _).mono ?_
  rintro e w1 ⟨rfl, b1⟩
  have H1 := hid (kept2_on H0.out b1)
  clear b1 H0
  obtain ⟨⟨_, _, c0, c1, c2, c3, c4, c5⟩, h0, h1, h2, h3, h4, h5, h6⟩ := H1.out
  rw [h22]
  go_wp2_with fail
  refine (both_calls _ _ _ _ _ _ _ _).mono ?_
  rintro e w2 ⟨rfl, b2⟩
  have H2 := hid (kept2_on H1.out b2)
  clear b2 H1 c0 c1 c2 c3 c4 c5 h0 h1 h2 h3 h4 h5 h6
  obtain ⟨⟨_, _, c0, c1, c2, c3, c4, c5⟩, h0, h1, h2, h3, h4, h5, h6⟩ := H2.out
  rw [h33]
  go_wp2
  exact bodyPost_ret (ret_ve rfl rfl (put3_cells H2.out.2 _ _ _)) rfl ⟨rfl, put3 (kept2_below H2.out) (by omega) _ _ _⟩

theorem reckon_sub (n : Int) (s : ByteArray) (n' : Int) (s' : ByteArray) (w : World) :
    Calls Try.prog 36 #[.int .i64 2, .agg #[.int .i64 2, .int .i64 n, .string s], .agg #[.int .i64 2, .int .i64 n', .string s']] w fun e w' => e = .returned (.tuple #[.agg #[.int .i64 2, .int .i64 (W63 (n - n')), .string ⟨#[]⟩], .int .i64 0]) ∧ Below w.heap.size w w' := by
  have H0 := hid (kept2_new w 2 n s 2 n' s' 23)
  go_enter Try.func36, Try.ntmps36
  go_wp2_with fail
  refine (both_calls _ _ _ _ _ _ _ _).mono ?_
  rintro e w1 ⟨rfl, b1⟩
  have H1 := hid (kept2_on H0.out b1)
  clear b1 H0
  obtain ⟨⟨_, _, c0, c1, c2, c3, c4, c5⟩, h0, h1, h2, h3, h4, h5, h6⟩ := H1.out
  rw [show ((2 : Int) == 2 && (2 : Int) == 2) = true from rfl]
  go_wp2_with fail
  refine (sub_calls n n' _).mono ?_
  rintro e wx ⟨rfl, rfl⟩
  go_wp2_with fail
  refine (whole_calls _ _).mono ?_
  rintro e w2 ⟨rfl, b2⟩
  have H2 := hid (kept2_on H1.out b2)
  clear b2 H1 c0 c1 c2 c3 c4 c5 h0 h1 h2 h3 h4 h5 h6
  obtain ⟨⟨_, _, c0, c1, c2, c3, c4, c5⟩, h0, h1, h2, h3, h4, h5, h6⟩ := H2.out
  go_wp2
  exact bodyPost_ret (ret_ve rfl rfl (put3_cells H2.out.2 _ _ _)) rfl ⟨rfl, put3 (kept2_below H2.out) (by omega) _ _ _⟩

theorem reckon_mul (n : Int) (s : ByteArray) (n' : Int) (s' : ByteArray) (w : World) :
    Calls Try.prog 36 #[.int .i64 3, .agg #[.int .i64 2, .int .i64 n, .string s], .agg #[.int .i64 2, .int .i64 n', .string s']] w fun e w' => e = .returned (.tuple #[.agg #[.int .i64 2, .int .i64 (W63 (n * n')), .string ⟨#[]⟩], .int .i64 0]) ∧ Below w.heap.size w w' := by
  have H0 := hid (kept2_new w 2 n s 2 n' s' 23)
  go_enter Try.func36, Try.ntmps36
  go_wp2_with fail
  refine (both_calls _ _ _ _ _ _ _ _).mono ?_
  rintro e w1 ⟨rfl, b1⟩
  have H1 := hid (kept2_on H0.out b1)
  clear b1 H0
  obtain ⟨⟨_, _, c0, c1, c2, c3, c4, c5⟩, h0, h1, h2, h3, h4, h5, h6⟩ := H1.out
  rw [show ((2 : Int) == 2 && (2 : Int) == 2) = true from rfl]
  go_wp2_with fail
  refine (mul_calls n n' _).mono ?_
  rintro e wx ⟨rfl, rfl⟩
  go_wp2_with fail
  refine (whole_calls _ _).mono ?_
  rintro e w2 ⟨rfl, b2⟩
  have H2 := hid (kept2_on H1.out b2)
  clear b2 H1 c0 c1 c2 c3 c4 c5 h0 h1 h2 h3 h4 h5 h6
  obtain ⟨⟨_, _, c0, c1, c2, c3, c4, c5⟩, h0, h1, h2, h3, h4, h5, h6⟩ := H2.out
  go_wp2
  exact bodyPost_ret (ret_ve rfl rfl (put3_cells H2.out.2 _ _ _)) rfl ⟨rfl, put3 (kept2_below H2.out) (by omega) _ _ _⟩

theorem reckon_div (n : Int) (s : ByteArray) (n' : Int) (s' : ByteArray) (hb : ¬ n' = 0) (w : World) :
    Calls Try.prog 36 #[.int .i64 4, .agg #[.int .i64 2, .int .i64 n, .string s], .agg #[.int .i64 2, .int .i64 n', .string s']] w fun e w' => e = .returned (.tuple #[.agg #[.int .i64 2, .int .i64 (W63 (n.tdiv n')), .string ⟨#[]⟩], .int .i64 0]) ∧ Below w.heap.size w w' := by
  have H0 := hid (kept2_new w 2 n s 2 n' s' 23)
  go_enter Try.func36, Try.ntmps36
  go_wp2_with fail
  refine (both_calls _ _ _ _ _ _ _ _).mono ?_
  rintro e w1 ⟨rfl, b1⟩
  have H1 := hid (kept2_on H0.out b1)
  clear b1 H0
  obtain ⟨⟨_, _, c0, c1, c2, c3, c4, c5⟩, h0, h1, h2, h3, h4, h5, h6⟩ := H1.out
  rw [show ((2 : Int) == 2 && (2 : Int) == 2) = true from rfl]
  go_wp2_with fail
  refine (div_calls n n' hb _).mono ?_
  rintro e wx ⟨rfl, rfl⟩
  go_wp2_with fail
  refine (whole_calls _ _).mono ?_
  rintro e w2 ⟨rfl, b2⟩
  have H2 := hid (kept2_on H1.out b2)
  clear b2 H1 c0 c1 c2 c3 c4 c5 h0 h1 h2 h3 h4 h5 h6
  obtain ⟨⟨_, _, c0, c1, c2, c3, c4, c5⟩, h0, h1, h2, h3, h4, h5, h6⟩ := H2.out
  go_wp2
  exact bodyPost_ret (ret_ve rfl rfl (put3_cells H2.out.2 _ _ _)) rfl ⟨rfl, put3 (kept2_below H2.out) (by omega) _ _ _⟩

theorem reckon_mod (n : Int) (s : ByteArray) (n' : Int) (s' : ByteArray) (hb : ¬ n' = 0) (w : World) :
    Calls Try.prog 36 #[.int .i64 5, .agg #[.int .i64 2, .int .i64 n, .string s], .agg #[.int .i64 2, .int .i64 n', .string s']] w fun e w' => e = .returned (.tuple #[.agg #[.int .i64 2, .int .i64 (n.tmod n'), .string ⟨#[]⟩], .int .i64 0]) ∧ Below w.heap.size w w' := by
  have H0 := hid (kept2_new w 2 n s 2 n' s' 23)
  go_enter Try.func36, Try.ntmps36
  go_wp2_with fail
  refine (both_calls _ _ _ _ _ _ _ _).mono ?_
  rintro e w1 ⟨rfl, b1⟩
  have H1 := hid (kept2_on H0.out b1)
  clear b1 H0
  obtain ⟨⟨_, _, c0, c1, c2, c3, c4, c5⟩, h0, h1, h2, h3, h4, h5, h6⟩ := H1.out
  rw [show ((2 : Int) == 2 && (2 : Int) == 2) = true from rfl]
  go_wp2_with fail
  refine (mod_calls n n' hb _).mono ?_
  rintro e wx ⟨rfl, rfl⟩
  go_wp2_with fail
  refine (whole_calls _ _).mono ?_
  rintro e w2 ⟨rfl, b2⟩
  have H2 := hid (kept2_on H1.out b2)
  clear b2 H1 c0 c1 c2 c3 c4 c5 h0 h1 h2 h3 h4 h5 h6
  obtain ⟨⟨_, _, c0, c1, c2, c3, c4, c5⟩, h0, h1, h2, h3, h4, h5, h6⟩ := H2.out
  go_wp2
  exact bodyPost_ret (ret_ve rfl rfl (put3_cells H2.out.2 _ _ _)) rfl ⟨rfl, put3 (kept2_below H2.out) (by omega) _ _ _⟩

theorem reckon_div0 (n : Int) (s : ByteArray) (s' : ByteArray) (w : World) :
    Calls Try.prog 36 #[.int .i64 4, .agg #[.int .i64 2, .int .i64 n, .string s], .agg #[.int .i64 2, .int .i64 0, .string s']] w fun e w' => e = .returned (.tuple #[.agg #[.int .i64 0, .int .i64 0, .string ⟨#[]⟩], .int .i64 31]) ∧ Below w.heap.size w w' := by
  have H0 := hid (kept2_new w 2 n s 2 0 s' 23)
  go_enter Try.func36, Try.ntmps36
  go_wp2_with fail
  refine (both_calls _ _ _ _ _ _ _ _).mono ?_
  rintro e w1 ⟨rfl, b1⟩
  have H1 := hid (kept2_on H0.out b1)
  clear b1 H0
  obtain ⟨⟨_, _, c0, c1, c2, c3, c4, c5⟩, h0, h1, h2, h3, h4, h5, h6⟩ := H1.out
  rw [show ((2 : Int) == 2 && (2 : Int) == 2) = true from rfl]
  go_wp2_with fail
  refine (div_zero n _).mono ?_
  rintro e wx ⟨rfl, rfl⟩
  go_wp2
  exact bodyPost_ret (ret_ve rfl rfl (put3_cells H1.out.2 _ _ _)) rfl ⟨rfl, put3 (kept2_below H1.out) (by omega) _ _ _⟩

theorem reckon_mod0 (n : Int) (s : ByteArray) (s' : ByteArray) (w : World) :
    Calls Try.prog 36 #[.int .i64 5, .agg #[.int .i64 2, .int .i64 n, .string s], .agg #[.int .i64 2, .int .i64 0, .string s']] w fun e w' => e = .returned (.tuple #[.agg #[.int .i64 0, .int .i64 0, .string ⟨#[]⟩], .int .i64 31]) ∧ Below w.heap.size w w' := by
  have H0 := hid (kept2_new w 2 n s 2 0 s' 23)
  go_enter Try.func36, Try.ntmps36
  go_wp2_with fail
  refine (both_calls _ _ _ _ _ _ _ _).mono ?_
  rintro e w1 ⟨rfl, b1⟩
  have H1 := hid (kept2_on H0.out b1)
  clear b1 H0
  obtain ⟨⟨_, _, c0, c1, c2, c3, c4, c5⟩, h0, h1, h2, h3, h4, h5, h6⟩ := H1.out
  rw [show ((2 : Int) == 2 && (2 : Int) == 2) = true from rfl]
  go_wp2_with fail
  refine (mod_zero n _).mono ?_
  rintro e wx ⟨rfl, rfl⟩
  go_wp2
  exact bodyPost_ret (ret_ve rfl rfl (put3_cells H1.out.2 _ _ _)) rfl ⟨rfl, put3 (kept2_below H1.out) (by omega) _ _ _⟩

theorem reckon_type (op k n : Int) (s : ByteArray) (k' n' : Int) (s' : ByteArray) (h22 : (k == 2 && k' == 2) = false) (w : World) :
    Calls Try.prog 36 #[.int .i64 op, .agg #[.int .i64 k, .int .i64 n, .string s], .agg #[.int .i64 k', .int .i64 n', .string s']] w fun e w' => e = .returned (.tuple #[.agg #[.int .i64 0, .int .i64 0, .string ⟨#[]⟩], .int .i64 30]) ∧ Below w.heap.size w w' := by
  have H0 := hid (kept2_new w k n s k' n' s' 23)
  go_enter Try.func36, Try.ntmps36
  go_wp2_with fail
  refine (both_calls _ _ _ _ _ _ _ _).mono ?_
  rintro e w1 ⟨rfl, b1⟩
  have H1 := hid (kept2_on H0.out b1)
  clear b1 H0
  obtain ⟨⟨_, _, c0, c1, c2, c3, c4, c5⟩, h0, h1, h2, h3, h4, h5, h6⟩ := H1.out
  rw [h22]
  go_wp2
  exact bodyPost_ret (ret_ve rfl rfl (put3_cells H1.out.2 _ _ _)) rfl ⟨rfl, put3 (kept2_below H1.out) (by omega) _ _ _⟩

theorem before_num (n : Int) (s : ByteArray) (n' : Int) (s' : ByteArray) (w : World) :
    Calls Try.prog 38 #[.agg #[.int .i64 2, .int .i64 n, .string s], .agg #[.int .i64 2, .int .i64 n', .string s']] w fun e w' => e = .returned (.tuple #[.bool (decide (n < n')), .int .i64 0]) ∧ Below w.heap.size w w' := by
  have H0 := hid (held2p w (.int .i64 2) (.int .i64 n) (.string s) (.int .i64 2) (.int .i64 n') (.string s') 23 23)
  go_enter Try.func38, Try.ntmps38
  go_wp2_with fail
  refine (both_calls _ _ _ _ _ _ _ _).mono ?_
  rintro e w1 ⟨rfl, b1⟩
  have H1 := hid (held2_on H0.out b1)
  clear b1 H0
  obtain ⟨_, _, c0, c1, c2, c3, c4, c5⟩ := H1.out
  rw [show ((2 : Int) == 2 && (2 : Int) == 2) = true from rfl]
  go_wp2
  go_ret2
  exact ⟨rfl, H1.out.2.1⟩

theorem before_str (n : Int) (s : ByteArray) (n' : Int) (s' : ByteArray) (w : World) :
    Calls Try.prog 38 #[.agg #[.int .i64 3, .int .i64 n, .string s], .agg #[.int .i64 3, .int .i64 n', .string s']] w fun e w' => e = .returned (.tuple #[.bool (blt s s'), .int .i64 0]) ∧ Below w.heap.size w w' := by
  have H0 := hid (held2p w (.int .i64 3) (.int .i64 n) (.string s) (.int .i64 3) (.int .i64 n') (.string s') 23 23)
  go_enter Try.func38, Try.ntmps38
  go_wp2_with fail
  refine (both_calls _ _ _ _ _ _ _ _).mono ?_
  rintro e w1 ⟨rfl, b1⟩
  have H1 := hid (held2_on H0.out b1)
  clear b1 H0
  obtain ⟨_, _, c0, c1, c2, c3, c4, c5⟩ := H1.out
  rw [show ((3 : Int) == 2 && (3 : Int) == 2) = false from rfl]
  go_wp2_with fail
  refine (both_calls _ _ _ _ _ _ _ _).mono ?_
  rintro e w2 ⟨rfl, b2⟩
  have H2 := hid (held2_on H1.out b2)
  clear b2 H1 c0 c1 c2 c3 c4 c5
  obtain ⟨_, _, c0, c1, c2, c3, c4, c5⟩ := H2.out
  rw [show ((3 : Int) == 3 && (3 : Int) == 3) = true from rfl]
  go_wp2
  go_ret2
  exact ⟨by unfold blt; rw [← Lib.toList_data, ← Lib.toList_data]; rfl, H2.out.2.1⟩

theorem before_type (k n : Int) (s : ByteArray) (k' n' : Int) (s' : ByteArray) (h22 : (k == 2 && k' == 2) = false) (h33 : (k == 3 && k' == 3) = false) (w : World) :
    Calls Try.prog 38 #[.agg #[.int .i64 k, .int .i64 n, .string s], .agg #[.int .i64 k', .int .i64 n', .string s']] w fun e w' => e = .returned (.tuple #[.bool false, .int .i64 30]) ∧ Below w.heap.size w w' := by
  have H0 := hid (held2p w (.int .i64 k) (.int .i64 n) (.string s) (.int .i64 k') (.int .i64 n') (.string s') 23 23)
  go_enter Try.func38, Try.ntmps38
  go_wp2_with fail
  refine (both_calls _ _ _ _ _ _ _ _).mono ?_
  rintro e w1 ⟨rfl, b1⟩
  have H1 := hid (held2_on H0.out b1)
  clear b1 H0
  obtain ⟨_, _, c0, c1, c2, c3, c4, c5⟩ := H1.out
  rw [h22]
  go_wp2_with fail
  refine (both_calls _ _ _ _ _ _ _ _).mono ?_
  rintro e w2 ⟨rfl, b2⟩
  have H2 := hid (held2_on H1.out b2)
  clear b2 H1 c0 c1 c2 c3 c4 c5
  obtain ⟨_, _, c0, c1, c2, c3, c4, c5⟩ := H2.out
  rw [h33]
  go_wp2
  go_ret2
  exact ⟨rfl, H2.out.2.1⟩

end Go.Proofs.Ytpagacgkcpgicaa
