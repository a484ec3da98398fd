/- For any number, Read of its Digits is the number where it lies from 0 to Most, ErrWord where it is below 0 and ErrRange where it is above Most, so NumBack is true for every input; no condition. -/
import Derived.Test.YtlgfbmfdkkbgaaaNumWorks
import Derived.Test.YtlgfbmfdkkbgaaaRows
import Derived.WalkKit
import Derived.ProofKit
import Derived.OpenShut
import Derived.ShutString
namespace Go.Proofs.Ytlgfbmfdkkbgaaa.numBack
open Go.ChangeShapes Go.WideShapes Go.ChangeAt Go.RowKit
open Go.ChangeMaps (open_string shut_string)
set_option linter.unusedVariables false      -- a walk need not use every 'w<i>' (that an integer argument fits its kind)

theorem own : ownKnob Try.prog.godebug = none := by kernel_rfl

theorem dec_all : ∀ (f m : Nat), (dec f m).all isDig = true
  | 0, _ => by simp [dec]
  | f + 1, m => by
    unfold dec; split
    · rename_i h
      simp only [List.all_cons, List.all_nil, isDig, small_toNat h]; simp; omega
    · rw [List.all_append, dec_all f (m / 10)]
      simp only [List.all_cons, List.all_nil, isDig, dig_toNat]; simp; omega

theorem dec_ne : ∀ (f m : Nat), dec (f + 1) m ≠ [] := by
  intro f m
  unfold dec; split <;> simp

theorem dec_reads : ∀ (f m : Nat), m < 10 ^ f → (m ≤ 4611686018427387903 → rst (dec f m) = ((m : Int), false)) ∧ (4611686018427387903 < m → (rst (dec f m)).2 = true)
  | 0, m, h => by
    have : m = 0 := by simpa using h
    subst this
    exact ⟨fun _ => rfl, fun h => absurd h (by decide)⟩
  | f + 1, m, h => by
    by_cases hs : m < 10
    · rw [dec_small hs]
      refine ⟨fun _ => ?_, fun h => by omega⟩
      simp only [rst, List.foldl_cons, List.foldl_nil, small_toNat hs, rstep]
      rw [if_neg (by simp; omega)]
      simp; omega
    · rw [dec_big (by omega), rst_snoc, dig_toNat]
      have hq : m / 10 < 10 ^ f := by rw [Nat.pow_succ] at h; omega
      have ih := dec_reads f (m / 10) hq
      refine ⟨fun hm => ?_, fun hm => ?_⟩
      · rw [ih.1 (by omega)]
        unfold rstep
        rw [if_neg (by simp; omega)]
        simp; omega
      · by_cases hq2 : m / 10 ≤ 4611686018427387903
        · rw [ih.1 hq2]
          unfold rstep
          rw [if_pos (by right; simp; omega)]
        · unfold rstep
          rw [if_pos (Or.inl (ih.2 (by omega)))]

theorem back_neg {n : Int} (h : n < 0) : readOut (digs n) = (0, 11) := by
  unfold digs readOut
  rw [if_pos h]
  simp [isDig]

theorem back_in {n : Int} (h0 : 0 ≤ n) (h1 : n ≤ 4611686018427387903) : readOut (digs n) = (n, 0) := by
  unfold digs
  rw [if_neg (by omega), readOut_good (dec_ne _ _) (dec_all _ _), (dec_reads 20 n.natAbs (by omega)).1 (by omega)]
  unfold rout
  simp; omega

theorem back_above {n : Int} (h0 : 4611686018427387903 < n) (h1 : n ≤ 9223372036854775807) : readOut (digs n) = (0, 10) := by
  unfold digs
  rw [if_neg (by omega), readOut_good (dec_ne _ _) (dec_all _ _)]
  unfold rout
  rw [(dec_reads 20 n.natAbs (by omega)).2 (by omega)]
  rfl

theorem back_calls {n x y : Int} (h : readOut (digs n) = (x, y)) (w : World) :
    Calls Try.prog 24 #[.string ⟨(digs n).toArray⟩] w fun e w' => e = .returned (.tuple #[.int .i64 x, .int .i64 y]) ∧ Grown w w' := by
  refine (read_calls ⟨(digs n).toArray⟩ ?_ w).mono ?_
  · have := digs_length n
    show (digs n).toArray.size ≤ _
    simp; omega
  · rintro e w' ⟨rfl, hg⟩
    have e1 : (⟨(digs n).toArray⟩ : ByteArray).data.toList = digs n := rfl
    rw [e1, h]
    exact ⟨rfl, hg⟩

/-! ### STEP 1: THE WALK: the Go text returns true. 'Grown w w'': the world has at most new blocks (Derived/RowKit3.lean). Part the cases AHEAD of 'go_enter' where a test parts the walk; take each callee by a contract of your own. -/
theorem walk (a0 : Int) (w0 : (Lit.int .i64 a0).wf = true) (w : World) :
    Calls Try.prog 7 #[.int .i64 a0] w fun e w' => e = .returned (.bool true) ∧ Grown w w' := by
  have b0 := bounds_i64 w0
  clear w0
  rcases (show a0 < 0 ∨ (0 ≤ a0 ∧ a0 ≤ 4611686018427387903) ∨ 4611686018427387903 < a0 from by omega) with h | ⟨h, h'⟩ | h
  · have hr := hide (back_neg h)
    go_enter Try.func7, Try.ntmps7
    go_wp2_with fail
    refine (digits_calls _ b0.1 b0.2 _).mono ?_
    rintro e w1 ⟨rfl, g1⟩
    go_wp2_with fail
    refine (back_calls hr.out _).mono ?_
    rintro e w2 ⟨rfl, g2⟩
    go_wp2_with fail
    refine (works_calls _).mono ?_
    rintro e w3 ⟨rfl, g3⟩
    go_wp2
    go_ret
    exact ⟨rfl, grown_trans g1 (grown_trans g2 g3)⟩
  · have hr := hide (back_in h h')
    go_enter Try.func7, Try.ntmps7
    go_wp2_with fail
    refine (digits_calls _ b0.1 b0.2 _).mono ?_
    rintro e w1 ⟨rfl, g1⟩
    go_wp2_with fail
    refine (back_calls hr.out _).mono ?_
    rintro e w2 ⟨rfl, g2⟩
    go_wp2_with fail
    refine (works_calls _).mono ?_
    rintro e w3 ⟨rfl, g3⟩
    go_wp2
    go_ret
    exact ⟨rfl, grown_trans g1 (grown_trans g2 g3)⟩
  · have hr := hide (back_above h b0.2)
    go_enter Try.func7, Try.ntmps7
    go_wp2_with fail
    refine (digits_calls _ b0.1 b0.2 _).mono ?_
    rintro e w1 ⟨rfl, g1⟩
    go_wp2_with fail
    refine (back_calls hr.out _).mono ?_
    rintro e w2 ⟨rfl, g2⟩
    go_wp2_with fail
    refine (works_calls _).mono ?_
    rintro e w3 ⟨rfl, g3⟩
    go_wp2
    go_ret
    exact ⟨rfl, grown_trans g1 (grown_trans g2 g3)⟩

set_option maxRecDepth 100000 in
theorem lifted (os : Os) (started : os.Started) (H : Type) (enc : TypeId × Value → H) :
    ReturnsInHanded {} Try.checked os 7 .any (Rows.numBackSpec.pre6 enc Try.prog Try.f7 Rows.numBackRow.domain false) (Rows.numBackSpec.post enc Try.prog Try.f7 false true false false) := by
  refine returnsInHanded_of_change (C := Try.checked) own started (by kernel_rfl) Try.func7
    (ChangeSpec.witness6 (enc := enc) (C := Try.checked) false ⟨#[], #[.int .i64 0], []⟩ 8 (by kernel_rfl) (by kernel_rfl) (by kernel_rfl) (by kernel_rfl)) ?_
  intro W base args ds gs before hval0 hW hcnd _
  have hval : ∀ (j : Nat) t v, Try.f7.params[j]? = some t → args[j]? = some v → Value.okWide Try.prog W .any base t v := hval0
  have hW' := hW
  obtain ⟨p, q, hA0, hV, rfl, hfz, hnd⟩ := hW
  have hA : DataW.TrodAll enc Try.prog W 0 (fun _ => true) true Try.f7.params.toList args.toList ds p := hA0
  rw [Try.params7] at hA hval
  obtain ⟨v0, vs0, d0, ds0, p0, q0, hargs, rfl, rfl, h0, r0⟩ := trodAll_cons hA
  obtain ⟨rfl, rfl, rfl⟩ := trodAll_nil r0
  obtain rfl : args = #[v0] := by cases args; simp_all
  obtain ⟨rfl, rfl⟩ := trodVars_none hV
  obtain ⟨a0, rfl, rfl, rfl, w0⟩ := open_int Try.underlying3 (hval 0 3 v0 rfl rfl) h0
  clear hA0 hval0
  simp only [List.append_nil] at hW'
  refine (walk a0 w0 W).mono fun e W' ⟨he, hg⟩ => ?_
  subst he
  exact ⟨_, rfl, post_of_same (pa := []) (pv := []) hW' (fun _ _ _ => (trodAll_cons_mk (shut_bool Try.underlying4 _) trodAll_mk0)) (fun sp _ => (trodAll_cons_mk (shut_int Try.underlying3 w0) trodAll_mk0)) (fun _ _ => rfl) rfl
    (hg.frame _) hg.2.1 (ok_one (by kernel_rfl) rfl (okWide_bool_mk Try.underlying4 _))⟩

theorem over : Rows.numBackRow.holds Try.pinned (OpenSpec.ofChange Rows.numBackSpec) :=
  OpenClaim.holds_of_wide 7 Try.f7 rfl rfl rfl rfl rfl rfl rfl ⟨rfl, rfl, rfl, rfl, rfl⟩ rfl rfl rfl rfl rfl (by kernel_rfl) Try.func7 (by kernel_rfl)
    (of_decide_eq_true (by kernel_rfl)) (by unfold Func.isWrapper; first | (rw [if_pos (by decide +kernel)]; kernel_rfl) | (rw [if_neg (by decide +kernel)]; exact ⟨rfl, rfl⟩))
    (fun os started H enc _ => lifted os started H enc)

end Go.Proofs.Ytlgfbmfdkkbgaaa.numBack
namespace Go.Proofs.Ytlgfbmfdkkbgaaa

/-- the statement, as it was given -/
theorem numBack_holds : Rows.NumBackSaid :=
  numBack.over
#print axioms numBack_holds
end Go.Proofs.Ytlgfbmfdkkbgaaa
