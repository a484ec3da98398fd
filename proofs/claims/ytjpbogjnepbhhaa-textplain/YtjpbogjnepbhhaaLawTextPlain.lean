/- For any string of at most 1000 bytes, what Quote writes has bytes from 32 to 126 alone; what Take takes, written and taken again, is the same; what is taken ends with the first quotation mark that is not escaped; a text that is not taken gives the empty string and a place within it: TextPlain is true for every input; no condition. -/
import Derived.Test.YtjpbogjnepbhhaaTxtWorks
import Derived.Test.YtjpbogjnepbhhaaRows
import Derived.WalkKit
import Derived.ProofKit
import Derived.OpenShut
import Derived.ShutString
import Derived.ChangeOld
import Derived.Below
namespace Go.Proofs.Ytjpbogjnepbhhaa.textPlain
open Go.ChangeShapes Go.WideShapes Go.ChangeAt Go.RowKit
open Go.ChangeMaps (open_string shut_string)
set_option linter.unusedVariables false      -- a walk need not use every 'w<i>' (that an integer argument fits its kind)

theorem own : ownKnob Try.prog.godebug = none := by kernel_rfl

theorem takeGo_len : ∀ (f : Nat) (l : List UInt8) (k : Nat) (acc x : List UInt8) (n : Nat), takeGo f l k acc = (x, n, 0) → x.length + k ≤ acc.length + n
  | 0, l, k, acc, x, n, h => by simp [takeGo] at h
  | f + 1, [], k, acc, x, n, h => by simp [takeGo] at h
  | f + 1, c :: r, k, acc, x, n, h => by
    rw [takeGo] at h
    split at h
    · simp at h; obtain ⟨rfl, rfl⟩ := h; omega
    · split at h
      · simp at h
      · rename_i b m ho
        have hm := oneOf_pos ho
        have := takeGo_len f _ _ _ _ _ h
        simp at this
        omega

theorem takeOut_len {l x : List UInt8} {n : Nat} (h : takeOut l = (x, n, 0)) : x.length ≤ n := by
  obtain ⟨r, rfl, hg⟩ := takeOut_34 h
  have := takeGo_len _ _ _ _ _ _ hg
  simp at this
  omega

theorem ext_list (s : ByteArray) (n : Nat) : (s.extract 0 n).data.toList = s.data.toList.take n := by simp [ByteArray.data_extract]
theorem ext_size (s : ByteArray) (n : Nat) (h : n ≤ s.size) : (s.extract 0 n).size = n := by
  rw [← list_size, ext_list, List.length_take, list_size]; omega

theorem row_at (q : List UInt8) (k : Nat) (h : k < q.length) (h' : k < (⟨q.toArray⟩ : ByteArray).size) : (⟨q.toArray⟩ : ByteArray)[k] = q[k] := rfl

/-! ### STEP 1: THE WALK: the Go text returns true. 'Grown w w'': the world has at most new blocks (Derived/RowKit3.lean). Part the cases AHEAD of 'go_enter' where a test parts the walk; take each callee by a contract of your own. -/
theorem walk (a0 : ByteArray) (w0 : a0.size ≤ maxLen) (w : World) :
    Calls Try.prog 6 #[.string a0] w fun e w' => e = .returned (.bool true) ∧ Below w.heap.size w w' := by
  by_cases hl : a0.size ≤ 1000
  · clear w0
    have hq : (quoted a0.data.toList).length ≤ 4002 := by have := quoted_length a0.data.toList; rw [list_size] at this; omega
    have Hseen := hid (quoted_seen a0.data.toList)
    go_enter Try.func6, Try.ntmps6
    go_wp2_with fail
    refine (quote_calls a0 (by omega) _).mono ?_
    rintro e w1 ⟨rfl, b1⟩
    generalize quoted a0.data.toList = q at *
    go_wp2_with fail
    have B1 := hid b1
    clear b1
    go_loop [4] (fun i => ∃ k : Nat, k ≤ q.length ∧ i = .int .i64 k) (fun i => q.length - (intOf i).toNat)
    case atStart => exact ⟨0, Nat.zero_le _, rfl⟩
    case round =>
      obtain ⟨k, hk, rfl⟩ := hrel
      by_cases hkl : k < q.length
      · have hkz : k < (⟨q.toArray⟩ : ByteArray).size := hkl
        obtain ⟨h32, h126⟩ : 32 ≤ (⟨q.toArray⟩ : ByteArray)[k].toNat ∧ (⟨q.toArray⟩ : ByteArray)[k].toNat ≤ 126 := Hseen.out q[k] (List.getElem_mem hkl)
        go_wp2
        go_round
        case rel => exact ⟨k + 1, by omega, by go_num⟩
        case measure => simp [intOf]; omega
      · clear Hseen
        rcases hto : takeOut a0.data.toList with ⟨x, n, er⟩
        have HT := hid hto
        have hbad := takeOut_bad a0.data.toList
        rw [hto] at hbad
        simp only at hbad
        clear hto
        rcases hbad with rfl | ⟨rfl, rfl, hn⟩
        · obtain ⟨h1, h2, h3, h4⟩ := takeOut_good HT.out
          rw [list_size] at h2
          have H3 := hid h3
          have H4 := hid h4
          clear h3 h4
          go_wp2_with fail
          refine (take_calls a0 (by omega) _).mono ?_
          rintro e w2 ⟨rfl, b2⟩
          rw [HT.out]
          have hx := takeOut_len HT.out
          have HQ := hid (takeOut_quoted x [])
          have hqx := quoted_length x
          go_wp2_with fail
          refine (take_calls _ (by rw [ext_size _ _ h2]; omega) _).mono ?_
          rintro e w3 ⟨rfl, b3⟩
          rw [ext_list, H3.out]
          go_wp2_with fail
          refine (take_calls _ (by rw [ext_size _ _ (by omega)]; omega) _).mono ?_
          rintro e w4 ⟨rfl, b4⟩
          rw [ext_list, H4.out]
          go_wp2_with fail
          refine (quote_calls ⟨x.toArray⟩ (by show x.length ≤ 1000000; omega) _).mono ?_
          rintro e w5 ⟨rfl, b5⟩
          go_wp2_with fail
          refine (take_calls _ (by show (quoted x).length ≤ 1000000; omega) _).mono ?_
          rintro e w6 ⟨rfl, b6⟩
          rw [show (⟨(quoted x).toArray⟩ : ByteArray).data.toList = quoted x ++ [] from by simp, HQ.out]
          have hnn : ((n - 1 : Nat) : Int) = (n : Int) - 1 := by omega
          go_wp2_with fail
          refine (works_calls _).mono ?_
          rintro e w7 ⟨rfl, b7⟩
          go_wp2
          go_ret
          exact ⟨rfl, below_on B1.out (below_on b2 (below_on b3 (below_on b4 (below_on b5 (below_on b6 b7)))))⟩
        · rw [list_size] at hn
          go_wp2_with fail
          refine (take_calls a0 (by omega) _).mono ?_
          rintro e w2 ⟨rfl, b2⟩
          rw [HT.out]
          go_wp2_with fail
          refine (works_calls _).mono ?_
          rintro e w3 ⟨rfl, b3⟩
          go_wp2
          go_ret
          exact ⟨rfl, below_on B1.out (below_on b2 b3)⟩
  · go_enter Try.func6, Try.ntmps6
    go_wp2_with fail
    refine (works_calls _).mono ?_
    rintro e w5 ⟨rfl, b5⟩
    go_wp2
    go_ret
    exact ⟨rfl, b5⟩

set_option maxRecDepth 100000 in
theorem lifted (os : Os) (started : os.Started) (H : Type) (enc : TypeId × Value → H) :
    ReturnsInHanded {} Try.checked os 6 .any (Rows.textPlainSpec.pre6 enc Try.prog Try.f6 Rows.textPlainRow.domain false) (Rows.textPlainSpec.post enc Try.prog Try.f6 false true false false) := by
  refine returnsInHanded_of_change (C := Try.checked) own started (by kernel_rfl) Try.func6
    (ChangeSpec.witness6 (enc := enc) (C := Try.checked) false ⟨#[], #[.string ByteArray.empty], []⟩ 8 (by kernel_rfl) (by kernel_rfl) (by kernel_rfl) (by kernel_rfl)) ?_
  intro W base args ds gs before hval0 hW hcnd _
  have hval : ∀ (j : Nat) t v, Try.f6.params[j]? = some t → args[j]? = some v → Value.okWide Try.prog W .any base t v := hval0
  have hW' := hW
  obtain ⟨p, q, hA0, hV, rfl, hfz, hnd⟩ := hW
  have hA : DataW.TrodAll enc Try.prog W 0 (fun _ => true) true Try.f6.params.toList args.toList ds p := hA0
  rw [Try.params6] at hA hval
  obtain ⟨v0, vs0, d0, ds0, p0, q0, hargs, rfl, rfl, h0, r0⟩ := trodAll_cons hA
  obtain ⟨rfl, rfl, rfl⟩ := trodAll_nil r0
  obtain rfl : args = #[v0] := by cases args; simp_all
  obtain ⟨rfl, rfl⟩ := trodVars_none hV
  obtain ⟨a0, rfl, rfl, rfl, w0⟩ := open_string Try.underlying9 (hval 0 9 v0 rfl rfl) h0
  clear hA0 hval0
  refine (walk a0 w0 W).mono fun e W' ⟨he, hg⟩ => ?_
  subst he
  exact ⟨_, rfl, _, _, _, [], _, [], hW', trodAll_mk1 (shut_bool Try.underlying4 _), (trodAll_cons_mk (shut_string Try.underlying9 w0) trodAll_mk0), rfl, hg.frame _, fun h => by cases h⟩

theorem over : Rows.textPlainRow.holds Try.pinned (OpenSpec.ofChange Rows.textPlainSpec) :=
  OpenClaim.holds_of_wide 6 Try.f6 rfl rfl rfl rfl rfl rfl rfl ⟨rfl, rfl, rfl, rfl, rfl⟩ rfl rfl rfl rfl rfl (by kernel_rfl) Try.func6 (by kernel_rfl)
    (of_decide_eq_true (by kernel_rfl)) (by unfold Func.isWrapper; first | (rw [if_pos (by decide +kernel)]; kernel_rfl) | (rw [if_neg (by decide +kernel)]; exact ⟨rfl, rfl⟩))
    (fun os started H enc _ => lifted os started H enc)

end Go.Proofs.Ytjpbogjnepbhhaa.textPlain
namespace Go.Proofs.Ytjpbogjnepbhhaa

/-- the statement, as it was given -/
theorem textPlain_holds : Rows.TextPlainSaid :=
  textPlain.over
#print axioms textPlain_holds
end Go.Proofs.Ytjpbogjnepbhhaa
