/- Parse. The laws' own test. -/
import Derived.Test.YtijbiedblahmhaaDoorPsWhole
import Derived.KernelRfl
namespace Go.Proofs.YtijbiedblahmhaaDoor
open Go.RowKit

/-- what a program's rule reads -/
def progR (f : Nat) (l : List Tok) : PR := (pStmts f [] l).bind fun _ ks l => .ok (ndK 29 ks) false l
theorem parseO_is (f : Nat) (s : ByteArray) (he : (tokOut s).2.2 = 0) : parseO f true s = wholeO (progR f (tokOut s).1) := by
  unfold parseO
  rw [if_neg (by rw [he]; simp)]
  unfold pWhole
  simp only [if_true]
  change (match (progR f (tokOut s).1).bind _ with | .bad l => _ | .ok t _ _ => _) = _
  cases progR f (tokOut s).1 with
  | bad l => rfl
  | ok t b l =>
    rw [PR.bind_ok, wholeO_ok]
    split
    · rename_i h1
      split at h1
      · cases h1
      · rename_i h2
        injection h1 with h3
        subst h3
        rw [if_neg h2]
    · rename_i h1
      split at h1
      · rename_i h2
        injection h1 with h3 _ _
        subst h3
        rw [if_pos h2]
      · cases h1
theorem prog_count (f : Nat) (s : ByteArray) (he : (tokOut s).2.2 = 0) : ∀ x b l, progR f (tokOut s).1 = .ok x b l → countN x ≤ 1000000 := by
  intro x b l h
  have hm := (may f).stmts [] (tokOut s).1 (tokOut s).1 (out_right s) ⟨by simp, by simp, [], rfl, by simp [countL]⟩
  have hk := (out_tokok he).few
  unfold progR at h
  cases hq : pStmts f [] (tokOut s).1 with
  | bad l1 => rw [hq] at h; cases h
  | ok ns ts l1 =>
    rw [hq] at h hm
    rw [PL.bind_ok] at h
    injection h with e1 _ _
    obtain ⟨q1, q2, pre, q3, q4⟩ := hm
    rw [← e1]
    have := congrArg List.length q3
    simp at this
    simp only [ndK, countN]
    omega
/-- parse.whole with a program's rule -/
theorem wholeP_calls (f : Nat) (s : ByteArray) (hs : s.size ≤ 1000000) (hf : 20 * (tokOut s).1.length + 14 ≤ f) (w : World) (h0 : 0 < w.heap.size) (h1 : 1 < w.heap.size) (SG : Hid (Texts 0 sgnL w)) (ST : Hid (Texts 1 tsgnL w)) :
    Calls Tryd.prog 6 #[.string s, .func (.func 7) #[] #[]] w (Whole w (parseO f true s)) := by
  by_cases he : (tokOut s).2.2 = 0
  · rw [parseO_is f s he]
    refine whole_prog s hs w h0 h1 SG ST he _ (fun P w' S => ?_) (prog_count f s he)
    exact rule_prog P _ _ w' _ S (hid fun w2 S2 => program_calls f P _ _ w2 hf S2)
  · have e : parseO f true s = (ndZ, ((tokOut s).2.1 : Int), (tokOut s).2.2) := by unfold parseO; rw [if_pos he]
    rw [e]
    exact whole_err s hs _ w h0 SG he
theorem ret_parse {fn : Func} {t1 t2 t3 : Tmp} (h : fn.results = #[.cell t1 26, .tmp t2, .tmp t3]) {tmps : Array Value} {nb : Nat} {w : World} {a b c d e f p : Value} (e1 : tmps.getD t1 undef = .pointer (some ⟨nb, 0, none⟩))
    (h1 : Blk nb 26 #[a, b, c, d, e, f, p] w) : (results fn tmps).run Tryd.prog w = .ok (.tuple #[.agg #[a, b, c, d, e, f, p], tmps.getD t2 undef, tmps.getD t3 undef]) w := by
  rw [Array.getD_eq_getD_getElem?] at e1
  have c0 := blk_cell h1 0
  have c1 := blk_cell h1 1
  have c2 := blk_cell h1 2
  have c3 := blk_cell h1 3
  have c4 := blk_cell h1 4
  have c5 := blk_cell h1 5
  have c6 := blk_cell h1 6
  simp at c0 c1 c2 c3 c4 c5 c6
  simp [results, h, e1, go_sem, asAddr, c0, c1, c2, c3, c4, c5, c6]

set_option maxRecDepth 100000 in
set_option maxHeartbeats 3200000 in
theorem parse_calls (f : Nat) (s : ByteArray) (hs : s.size ≤ 1000000) (hf : 20 * (tokOut s).1.length + 14 ≤ f) (w : World) (h0 : 0 < w.heap.size) (h1 : 1 < w.heap.size) (SG : Hid (Texts 0 sgnL w)) (ST : Hid (Texts 1 tsgnL w)) :
    Calls Tryd.prog 5 #[.string s] w (Whole w (parseO f true s)) := by
  have A := (Below.refl _ w).alloc (Nat.le_refl _) (.cells #[.int .i64 0, .int .i64 0, .int .i64 0, .string ⟨#[]⟩, .slice none 0 0, .slice none 0 0, .int .i64 0] 26)
  have N0 := hid (blk_new w 26 #[.int .i64 0, .int .i64 0, .int .i64 0, .string ⟨#[]⟩, .slice none 0 0, .slice none 0 0, .int .i64 0])
  have HC := hid (wholeP_calls f s hs hf _ (by simp) (by simp; omega) (hid (texts_on SG.out h0 A)) (hid (texts_on ST.out h1 A)))
  have A0 := hid A
  clear A SG ST
  obtain ⟨⟨x, at_, er⟩, ho⟩ : ∃ o, parseO f true s = o := ⟨_, rfl⟩
  rw [ho] at HC ⊢
  clear ho
  go_enter Tryd.func5, Tryd.ntmps5
  go_wp2_with fail
  refine HC.out.mono ?_
  rintro e w1 ⟨nv, kv, rfl, n1, b1⟩
  obtain ⟨a1, q1, a2, q2, rfl, rfl⟩ := ndR_shape n1
  have X1 := hid (ndR_low (lo' := w.heap.size + 1) (by simp) n1)
  have N1 := hid (blk_on N0.out b1)
  have B1 := hid (below_on A0.out b1)
  clear n1 b1 HC N0 A0
  unfold ndv
  obtain ⟨r0, r1, r2, r3, r4, r5, r6⟩ := cells7 N1.out
  obtain ⟨u0, u1, u2, u3, u4, u5, u6⟩ := frees7 N1.out
  go_wp2_with fail
  have Z := put7_blk N1.out (.int .i64 x.kind) (.int .i64 x.op) (.int .i64 x.num) (.string x.str) (.slice a1 x.names.length q1) (.slice a2 x.kids.length q2) (.int .i64 x.pl)
  have BL := below_put7 B1.out (Nat.le_refl _) (.int .i64 x.kind) (.int .i64 x.op) (.int .i64 x.num) (.string x.str) (.slice a1 x.names.length q1) (.slice a2 x.kids.length q2) (.int .i64 x.pl)
  have NN := ndR_low (Nat.le_succ _) (ndR_aft (put7_aft w1 (Nat.lt_succ_self _) (.int .i64 x.kind) (.int .i64 x.op) (.int .i64 x.num) (.string x.str) (.slice a1 x.names.length q1) (.slice a2 x.kids.length q2) (.int .i64 x.pl)) X1.out)
  exact bodyPost_ret (ret_parse rfl rfl Z) rfl ⟨_, _, rfl, NN, BL⟩

end Go.Proofs.YtijbiedblahmhaaDoor

namespace Go.Proofs.YtijbiedblahmhaaDoor
open Go.RowKit

def trialP : ByteArray := ⟨#[97, 46, 102, 40, 49, 41, 46, 120, 32, 61, 32, 50, 59]⟩
def trialM : Nd := .mk 16 0 0 ⟨#[102]⟩ [] [.mk 5 0 0 ⟨#[97]⟩ [] [] 0, .mk 3 0 1 bz [] [] 0] 0
def trialK : Nd := .mk 23 0 0 ⟨#[120]⟩ [] [trialM, .mk 3 0 2 bz [] [] 0] 0
def trialN : Nd := .mk 29 0 0 bz [] [trialK] 0
theorem trialP_tok : (tokOut trialP).1.length = 12 := by kernel_rfl
theorem trialP_out : parseO 300 true trialP = (trialN, 0, 0) := by kernel_rfl
theorem lt_of_cell {w : World} {b i : Nat} {v : Value} (h : w.cell? ⟨b, i, none⟩ = some v) : b < w.heap.size := by
  rcases Nat.lt_or_ge b w.heap.size with h1 | h1
  · exact h1
  · simp [World.cell?, Array.getElem?_eq_none h1] at h
/-- the trial's nodes in memory -/
theorem trial_in {lo : Nat} {w : World} {nv kv : Value} (h : NdR lo w trialN nv kv) : ∃ b c b2 c2 m nv2, kv = .slice (some ⟨b, c, none⟩) 1 m ∧ w.cell? ⟨b, c, none⟩ = some (.int .i64 23) ∧ w.cell? ⟨b, c + 5, none⟩ = some (.slice (some ⟨b2, c2, none⟩) 2 nv2) ∧ w.cell? ⟨b2, c2, none⟩ = some (.int .i64 16) := by
  unfold trialN at h
  rcases (ndR_mk1 h).2 with ⟨_, _, _, h2⟩ | ⟨b, c, m, e, hb, h3, _⟩
  · cases h2
  · unfold trialK at h3
    rw [NdsW] at h3
    obtain ⟨⟨nv1, kv1, ⟨x0, _, _, _, _, x5, _⟩, h4⟩, _⟩ := h3
    rcases (ndW_mk.1 h4).2.2 with ⟨_, _, _, h2⟩ | ⟨b2, c2, m2, e2, hb2, h5, _⟩
    · cases h2
    · unfold trialM at h5
      rw [NdsW] at h5
      obtain ⟨⟨_, _, ⟨y0, _⟩, _⟩, _⟩ := h5
      exact ⟨b, c, b2, c2, m, m2, e, x0, by rw [x5, e2]; rfl, y0⟩

set_option maxRecDepth 100000 in
set_option maxHeartbeats 3200000 in
theorem works7_calls (w : World) (h0 : 0 < w.heap.size) (h1 : 1 < w.heap.size) (SG : Hid (Texts 0 sgnL w)) (ST : Hid (Texts 1 tsgnL w)) :
    Calls Tryd.prog 4 #[] w fun e w' => e = .returned (.bool true) ∧ Below w.heap.size w w' := by
  have hc := parse_calls 300 trialP (by decide) (by rw [trialP_tok]; decide) w h0 h1 SG ST
  rw [trialP_out] at hc
  have HC := hid (show Calls Tryd.prog 5 #[.string ⟨#[97, 46, 102, 40, 49, 41, 46, 120, 32, 61, 32, 50, 59]⟩] w (fun e w' => ∃ nv kv, e = .returned (.tuple #[.agg #[.int .i64 29, .int .i64 0, .int .i64 0, .string bz, nv, kv, .int .i64 0], .int .i64 0, .int .i64 0]) ∧ NdR w.heap.size w' trialN nv kv ∧ Below w.heap.size w w') from hc)
  clear SG ST hc
  go_enter Tryd.func4, Tryd.ntmps4
  go_wp2_with fail
  refine HC.out.mono ?_
  rintro e w1 ⟨nv, kv, rfl, n1, b1⟩
  obtain ⟨a1, q1, _, _, hnv, _⟩ := ndR_shape n1
  replace hnv : nv = .slice a1 0 q1 := hnv
  subst hnv
  obtain ⟨b, c, b2, c2, m, m2, rfl, c0, c5, d0⟩ := trial_in n1
  have B1 := hid b1
  clear b1 HC n1
  have hb := lt_of_cell c0
  have hb2 := lt_of_cell d0
  have AL := (Below.refl _ w1).alloc (Nat.le_refl _) (.cells #[.int .i64 29, .int .i64 0, .int .i64 0, .string bz, .slice a1 0 q1, .slice (some ⟨b, c, none⟩) 1 m, .int .i64 0] 26)
  have c0' := (AL.cell (p := ⟨b, c, none⟩) hb).trans c0
  have c5' := (AL.cell (p := ⟨b, c + 5, none⟩) hb).trans c5
  have d0' := (AL.cell (p := ⟨b2, c2, none⟩) hb2).trans d0
  have N2 := blk_new w1 26 #[.int .i64 29, .int .i64 0, .int .i64 0, .string bz, .slice a1 0 q1, .slice (some ⟨b, c, none⟩) 1 m, .int .i64 0]
  obtain ⟨s0, s1, s2, s3, s4, s5, s6⟩ := cells7 N2
  have B2 := hid (below_on B1.out AL)
  clear AL N2 c0 c5 d0 hb hb2 B1
  go_wp2_with fail
  go_ret
  exact ⟨rfl, B2.out⟩

end Go.Proofs.YtijbiedblahmhaaDoor
