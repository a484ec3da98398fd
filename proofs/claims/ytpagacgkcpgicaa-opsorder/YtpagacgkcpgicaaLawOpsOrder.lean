/- Of two numbers, or two strings of at most 1000 bytes, that may be, just one of less, alike and greater is so, and what is not less is greater or alike (else the law asks its own test alone): OpsOrder is true for every input; no condition. -/
import Derived.Test.YtpagacgkcpgicaaOpsTri
import Derived.Test.YtpagacgkcpgicaaOpsWorks
import Derived.Test.YtpagacgkcpgicaaRTell
import Derived.Test.YtpagacgkcpgicaaRows
import Derived.WalkKit
import Derived.ProofKit
import Derived.OpenShut
import Derived.ShutString
import Derived.ChangeOld
import Derived.Below
namespace Go.Proofs.Ytpagacgkcpgicaa.opsOrder
open Go.ChangeShapes Go.WideShapes Go.ChangeAt Go.RowKit
open Go.ChangeMaps (open_string shut_string)
set_option linter.unusedVariables false

theorem own : ownKnob Try.prog.godebug = none := by kernel_rfl

set_option maxRecDepth 100000 in
theorem walk2 (n : Int) (s : ByteArray) (n' : Int) (s' : ByteArray) (hn1 : -9223372036854775808 ≤ n) (hn2 : n ≤ 9223372036854775807) (hn1' : -9223372036854775808 ≤ n') (hn2' : n' ≤ 9223372036854775807)
    (hm : s.size ≤ 1000000) (hm' : s'.size ≤ 1000000) (hsh : Hid (shortsB s s' = true)) (ha : Hid (rightB 2 n s.data.toList = true)) (hb : Hid (rightB 2 n' s'.data.toList = true))
    (lt gt eq : Bool) (R : Hid (∀ op : Int, 6 ≤ op → op ≤ 11 → binOut op 2 n s 2 n' s' 256 = (1, bit (tOf lt gt eq op), ⟨#[]⟩, 0))) (T : Hid (Tri lt gt eq)) (w : World) :
    Calls Try.prog 7 #[.agg #[.int .i64 2, .int .i64 n, .string s], .agg #[.int .i64 2, .int .i64 n', .string s']] w fun e w' => e = .returned (.bool true) ∧ Below w.heap.size w w' := by
  have H0 := hid (held2_on (held2p w (.int .i64 2) (.int .i64 n) (.string s) (.int .i64 2) (.int .i64 n') (.string s') 23 23)
    (box1 _ (Obj.cells #[.int .i64 2, .int .i64 n, .string s, .int .i64 2, .int .i64 n', .string s'] 23)))
  go_enter Try.func7, Try.ntmps7
  go_wp2_with fail
  refine (short2_calls _ s s' _ (six2 _ (by simp) _ _ _ _ _ _ _) (six5 _ (by simp) _ _ _ _ _ _ _)).mono ?_
  rintro e w0 ⟨rfl, rfl⟩
  rw [hsh.out]
  go_wp2_with fail
  refine (refright_calls 2 n hn1 hn2 s _).mono ?_
  rintro e w1 ⟨rfl, b1⟩
  rw [ha.out]
  have H1 := hid (held2_on H0.out b1)
  clear H0 b1
  obtain ⟨z1, _, c0, c1, c2, c3, c4, c5⟩ := H1.out
  have l1 : w.heap.size < w1.heap.size := by omega
  have l2 : w.heap.size + 1 < w1.heap.size := by omega
  go_wp2_with fail
  refine (refright_calls 2 n' hn1' hn2' s' _).mono ?_
  rintro e w2 ⟨rfl, b2⟩
  rw [hb.out]
  have H2 := hid (held2_on H1.out b2)
  clear H1 b2 ha hb hsh z1 c0 c1 c2 c3 c4 c5 l1 l2 hn1 hn2 hn1' hn2'
  go_wp2_with fail
  go_loopw [5, 6] (fun c i wr => ∃ op : Int, 6 ≤ op ∧ op ≤ 12 ∧ i = .int .i64 op ∧ c = .int .i64 (cnt lt gt eq op) ∧ (w.heap.size + 2 ≤ wr.heap.size ∧ Below w.heap.size w wr ∧
      wr.cell? ⟨w.heap.size, 0, none⟩ = some (.int .i64 2) ∧ wr.cell? ⟨w.heap.size, 1, none⟩ = some (.int .i64 n) ∧ wr.cell? ⟨w.heap.size, 2, none⟩ = some (.string s) ∧
      wr.cell? ⟨w.heap.size + 1, 0, none⟩ = some (.int .i64 2) ∧ wr.cell? ⟨w.heap.size + 1, 1, none⟩ = some (.int .i64 n') ∧ wr.cell? ⟨w.heap.size + 1, 2, none⟩ = some (.string s'))) (fun _ i _ => 12 - (intOf i).toNat)
  case atStart => exact ⟨6, by omega, by omega, rfl, by rw [cnt_start], H2.out⟩
  case round =>
    clear H2
    obtain ⟨op, o6, o12, rfl, rfl, hH⟩ := hrel
    have H := hid hH
    obtain ⟨z1, _, c0, c1, c2, c3, c4, c5⟩ := hH
    have l1 : w.heap.size < wr.heap.size := by omega
    have l2 : w.heap.size + 1 < wr.heap.size := by omega
    rcases (show op = 6 ∨ op = 7 ∨ op = 8 ∨ op = 9 ∨ op = 10 ∨ op = 11 ∨ op = 12 from by omega) with rfl | rfl | rfl | rfl | rfl | rfl | rfl
    · have N := hid (cnt_7 lt gt eq)
      have hc := cnt_lo lt gt eq 6
      have R1 := hid (R.out 6 (by omega) (by omega))
      generalize cnt lt gt eq 6 = c at *
      generalize hx : bit (tOf lt gt eq 6) = x at *
      have X : x = 0 ∨ x = 1 := by rw [← hx]; exact bit_cases _
      clear hx o6 o12
      rcases X with rfl | rfl
      · go_wp2_with fail
        refine (bin_calls 6 2 n s 2 n' s' hm hm' 256 _).mono ?_
        rintro e w1 ⟨rfl, b1⟩
        rw [R1.out]
        have H1 := hid (held2_on H.out b1)
        clear H b1 z1 c0 c1 c2 c3 c4 c5 l1 l2
        go_wp2
        go_roundw
        case rel => exact ⟨7, by omega, by omega, rfl, by rw [N.out]; simp, held2_on H1.out (box1 _ _)⟩
        case measure => simp [intOf]
      · go_wp2_with fail
        refine (bin_calls 6 2 n s 2 n' s' hm hm' 256 _).mono ?_
        rintro e w1 ⟨rfl, b1⟩
        rw [R1.out]
        have H1 := hid (held2_on H.out b1)
        clear H b1 z1 c0 c1 c2 c3 c4 c5 l1 l2
        go_wp2
        go_roundw
        case rel => exact ⟨7, by omega, by omega, rfl, by rw [N.out], held2_on H1.out (box1 _ _)⟩
        case measure => simp [intOf]
    · have N := hid (cnt_8 lt gt eq)
      have hc := cnt_lo lt gt eq 7
      have R1 := hid (R.out 7 (by omega) (by omega))
      generalize cnt lt gt eq 7 = c at *
      generalize hx : bit (tOf lt gt eq 7) = x at *
      have X : x = 0 ∨ x = 1 := by rw [← hx]; exact bit_cases _
      clear hx o6 o12
      rcases X with rfl | rfl
      · go_wp2_with fail
        refine (bin_calls 7 2 n s 2 n' s' hm hm' 256 _).mono ?_
        rintro e w1 ⟨rfl, b1⟩
        rw [R1.out]
        have H1 := hid (held2_on H.out b1)
        clear H b1 z1 c0 c1 c2 c3 c4 c5 l1 l2
        go_wp2
        go_roundw
        case rel => exact ⟨8, by omega, by omega, rfl, by rw [N.out], held2_on H1.out (box1 _ _)⟩
        case measure => simp [intOf]
      · go_wp2_with fail
        refine (bin_calls 7 2 n s 2 n' s' hm hm' 256 _).mono ?_
        rintro e w1 ⟨rfl, b1⟩
        rw [R1.out]
        have H1 := hid (held2_on H.out b1)
        clear H b1 z1 c0 c1 c2 c3 c4 c5 l1 l2
        go_wp2
        go_roundw
        case rel => exact ⟨8, by omega, by omega, rfl, by rw [N.out], held2_on H1.out (box1 _ _)⟩
        case measure => simp [intOf]
    · have N := hid (cnt_9 lt gt eq)
      have hc := cnt_lo lt gt eq 8
      have R1 := hid (R.out 8 (by omega) (by omega))
      generalize cnt lt gt eq 8 = c at *
      generalize hx : bit (tOf lt gt eq 8) = x at *
      have X : x = 0 ∨ x = 1 := by rw [← hx]; exact bit_cases _
      clear hx o6 o12
      rcases X with rfl | rfl
      · go_wp2_with fail
        refine (bin_calls 8 2 n s 2 n' s' hm hm' 256 _).mono ?_
        rintro e w1 ⟨rfl, b1⟩
        rw [R1.out]
        have H1 := hid (held2_on H.out b1)
        clear H b1 z1 c0 c1 c2 c3 c4 c5 l1 l2
        go_wp2
        go_roundw
        case rel => exact ⟨9, by omega, by omega, rfl, by rw [N.out]; simp, held2_on H1.out (box1 _ _)⟩
        case measure => simp [intOf]
      · go_wp2_with fail
        refine (bin_calls 8 2 n s 2 n' s' hm hm' 256 _).mono ?_
        rintro e w1 ⟨rfl, b1⟩
        rw [R1.out]
        have H1 := hid (held2_on H.out b1)
        clear H b1 z1 c0 c1 c2 c3 c4 c5 l1 l2
        go_wp2
        go_roundw
        case rel => exact ⟨9, by omega, by omega, rfl, by rw [N.out], held2_on H1.out (box1 _ _)⟩
        case measure => simp [intOf]
    · have N := hid (cnt_10 lt gt eq)
      have hc := cnt_lo lt gt eq 9
      have R1 := hid (R.out 9 (by omega) (by omega))
      generalize cnt lt gt eq 9 = c at *
      generalize hx : bit (tOf lt gt eq 9) = x at *
      have X : x = 0 ∨ x = 1 := by rw [← hx]; exact bit_cases _
      clear hx o6 o12
      rcases X with rfl | rfl
      · go_wp2_with fail
        refine (bin_calls 9 2 n s 2 n' s' hm hm' 256 _).mono ?_
        rintro e w1 ⟨rfl, b1⟩
        rw [R1.out]
        have H1 := hid (held2_on H.out b1)
        clear H b1 z1 c0 c1 c2 c3 c4 c5 l1 l2
        go_wp2
        go_roundw
        case rel => exact ⟨10, by omega, by omega, rfl, by rw [N.out], held2_on H1.out (box1 _ _)⟩
        case measure => simp [intOf]
      · go_wp2_with fail
        refine (bin_calls 9 2 n s 2 n' s' hm hm' 256 _).mono ?_
        rintro e w1 ⟨rfl, b1⟩
        rw [R1.out]
        have H1 := hid (held2_on H.out b1)
        clear H b1 z1 c0 c1 c2 c3 c4 c5 l1 l2
        go_wp2
        go_roundw
        case rel => exact ⟨10, by omega, by omega, rfl, by rw [N.out], held2_on H1.out (box1 _ _)⟩
        case measure => simp [intOf]
    · have N := hid (cnt_11 lt gt eq)
      have hc := cnt_lo lt gt eq 10
      have R1 := hid (R.out 10 (by omega) (by omega))
      generalize cnt lt gt eq 10 = c at *
      generalize hx : bit (tOf lt gt eq 10) = x at *
      have X : x = 0 ∨ x = 1 := by rw [← hx]; exact bit_cases _
      clear hx o6 o12
      rcases X with rfl | rfl
      · go_wp2_with fail
        refine (bin_calls 10 2 n s 2 n' s' hm hm' 256 _).mono ?_
        rintro e w1 ⟨rfl, b1⟩
        rw [R1.out]
        have H1 := hid (held2_on H.out b1)
        clear H b1 z1 c0 c1 c2 c3 c4 c5 l1 l2
        go_wp2
        go_roundw
        case rel => exact ⟨11, by omega, by omega, rfl, by rw [N.out]; simp, held2_on H1.out (box1 _ _)⟩
        case measure => simp [intOf]
      · go_wp2_with fail
        refine (bin_calls 10 2 n s 2 n' s' hm hm' 256 _).mono ?_
        rintro e w1 ⟨rfl, b1⟩
        rw [R1.out]
        have H1 := hid (held2_on H.out b1)
        clear H b1 z1 c0 c1 c2 c3 c4 c5 l1 l2
        go_wp2
        go_roundw
        case rel => exact ⟨11, by omega, by omega, rfl, by rw [N.out], held2_on H1.out (box1 _ _)⟩
        case measure => simp [intOf]
    · have N := hid (cnt_12 lt gt eq)
      have hc := cnt_lo lt gt eq 11
      have R1 := hid (R.out 11 (by omega) (by omega))
      generalize cnt lt gt eq 11 = c at *
      generalize hx : bit (tOf lt gt eq 11) = x at *
      have X : x = 0 ∨ x = 1 := by rw [← hx]; exact bit_cases _
      clear hx o6 o12
      rcases X with rfl | rfl
      · go_wp2_with fail
        refine (bin_calls 11 2 n s 2 n' s' hm hm' 256 _).mono ?_
        rintro e w1 ⟨rfl, b1⟩
        rw [R1.out]
        have H1 := hid (held2_on H.out b1)
        clear H b1 z1 c0 c1 c2 c3 c4 c5 l1 l2
        go_wp2
        go_roundw
        case rel => exact ⟨12, by omega, by omega, rfl, by rw [N.out], held2_on H1.out (box1 _ _)⟩
        case measure => simp [intOf]
      · go_wp2_with fail
        refine (bin_calls 11 2 n s 2 n' s' hm hm' 256 _).mono ?_
        rintro e w1 ⟨rfl, b1⟩
        rw [R1.out]
        have H1 := hid (held2_on H.out b1)
        clear H b1 z1 c0 c1 c2 c3 c4 c5 l1 l2
        go_wp2
        go_roundw
        case rel => exact ⟨12, by omega, by omega, rfl, by rw [N.out], held2_on H1.out (box1 _ _)⟩
        case measure => simp [intOf]
    · have hc := hid (cnt_end T.out)
      have R1 := hid (R.out 6 (by omega) (by omega))
      have R2 := hid (R.out 9 (by omega) (by omega))
      rw [hc.out]
      go_wp2_with fail
      refine (bin_calls 6 2 n s 2 n' s' hm hm' 256 _).mono ?_
      rintro e w1 ⟨rfl, b1⟩
      rw [R1.out]
      have H1 := hid (held2_on H.out b1)
      clear H b1 z1 c0 c1 c2 c3 c4 c5 l1 l2
      obtain ⟨z1, _, c0, c1, c2, c3, c4, c5⟩ := H1.out
      have l1 : w.heap.size < w1.heap.size := by omega
      have l2 : w.heap.size + 1 < w1.heap.size := by omega
      go_wp2_with fail
      refine (bin_calls 9 2 n s 2 n' s' hm hm' 256 _).mono ?_
      rintro e w2 ⟨rfl, b2⟩
      rw [R2.out]
      have B2 := hid (below_next H1.out.2.1 b2)
      have D1 := hid (c3_fresh b2)
      clear H1 b2 z1 c0 c1 c2 c3 c4 c5 l1 l2 R1 R2 R T hc
      obtain ⟨l1, c0, c1, c2⟩ := D1.out
      clear D1
      rw [show tOf lt gt eq 6 = lt from rfl] at c1
      rw [show tOf lt gt eq 9 = !lt from rfl]
      cases lt
      · rw [show bit false = 0 from rfl] at *
        rw [show bit (!false) = 1 from rfl]
        go_wp2_with fail
        refine (works_calls _).mono ?_
        rintro e w3 ⟨rfl, b3⟩
        go_wp2
        go_ret
        exact ⟨rfl, below_next B2.out b3⟩
      · rw [show bit true = 1 from rfl] at *
        rw [show bit (!true) = 0 from rfl]
        go_wp2_with fail
        refine (works_calls _).mono ?_
        rintro e w3 ⟨rfl, b3⟩
        go_wp2
        go_ret
        exact ⟨rfl, below_next B2.out b3⟩

set_option maxRecDepth 100000 in
theorem walk3 (n : Int) (s : ByteArray) (n' : Int) (s' : ByteArray) (hn1 : -9223372036854775808 ≤ n) (hn2 : n ≤ 9223372036854775807) (hn1' : -9223372036854775808 ≤ n') (hn2' : n' ≤ 9223372036854775807)
    (hm : s.size ≤ 1000000) (hm' : s'.size ≤ 1000000) (hsh : Hid (shortsB s s' = true)) (ha : Hid (rightB 3 n s.data.toList = true)) (hb : Hid (rightB 3 n' s'.data.toList = true))
    (lt gt eq : Bool) (R : Hid (∀ op : Int, 6 ≤ op → op ≤ 11 → binOut op 3 n s 3 n' s' 256 = (1, bit (tOf lt gt eq op), ⟨#[]⟩, 0))) (T : Hid (Tri lt gt eq)) (w : World) :
    Calls Try.prog 7 #[.agg #[.int .i64 3, .int .i64 n, .string s], .agg #[.int .i64 3, .int .i64 n', .string s']] w fun e w' => e = .returned (.bool true) ∧ Below w.heap.size w w' := by
  have H0 := hid (held2_on (held2p w (.int .i64 3) (.int .i64 n) (.string s) (.int .i64 3) (.int .i64 n') (.string s') 23 23)
    (box1 _ (Obj.cells #[.int .i64 3, .int .i64 n, .string s, .int .i64 3, .int .i64 n', .string s'] 23)))
  go_enter Try.func7, Try.ntmps7
  go_wp2_with fail
  refine (short2_calls _ s s' _ (six2 _ (by simp) _ _ _ _ _ _ _) (six5 _ (by simp) _ _ _ _ _ _ _)).mono ?_
  rintro e w0 ⟨rfl, rfl⟩
  rw [hsh.out]
  go_wp2_with fail
  refine (refright_calls 3 n hn1 hn2 s _).mono ?_
  rintro e w1 ⟨rfl, b1⟩
  rw [ha.out]
  have H1 := hid (held2_on H0.out b1)
  clear H0 b1
  obtain ⟨z1, _, c0, c1, c2, c3, c4, c5⟩ := H1.out
  have l1 : w.heap.size < w1.heap.size := by omega
  have l2 : w.heap.size + 1 < w1.heap.size := by omega
  go_wp2_with fail
  refine (refright_calls 3 n' hn1' hn2' s' _).mono ?_
  rintro e w2 ⟨rfl, b2⟩
  rw [hb.out]
  have H2 := hid (held2_on H1.out b2)
  clear H1 b2 ha hb hsh z1 c0 c1 c2 c3 c4 c5 l1 l2 hn1 hn2 hn1' hn2'
  go_wp2_with fail
  go_loopw [5, 6] (fun c i wr => ∃ op : Int, 6 ≤ op ∧ op ≤ 12 ∧ i = .int .i64 op ∧ c = .int .i64 (cnt lt gt eq op) ∧ (w.heap.size + 2 ≤ wr.heap.size ∧ Below w.heap.size w wr ∧
      wr.cell? ⟨w.heap.size, 0, none⟩ = some (.int .i64 3) ∧ wr.cell? ⟨w.heap.size, 1, none⟩ = some (.int .i64 n) ∧ wr.cell? ⟨w.heap.size, 2, none⟩ = some (.string s) ∧
      wr.cell? ⟨w.heap.size + 1, 0, none⟩ = some (.int .i64 3) ∧ wr.cell? ⟨w.heap.size + 1, 1, none⟩ = some (.int .i64 n') ∧ wr.cell? ⟨w.heap.size + 1, 2, none⟩ = some (.string s'))) (fun _ i _ => 12 - (intOf i).toNat)
  case atStart => exact ⟨6, by omega, by omega, rfl, by rw [cnt_start], H2.out⟩
  case round =>
    clear H2
    obtain ⟨op, o6, o12, rfl, rfl, hH⟩ := hrel
    have H := hid hH
    obtain ⟨z1, _, c0, c1, c2, c3, c4, c5⟩ := hH
    have l1 : w.heap.size < wr.heap.size := by omega
    have l2 : w.heap.size + 1 < wr.heap.size := by omega
    rcases (show op = 6 ∨ op = 7 ∨ op = 8 ∨ op = 9 ∨ op = 10 ∨ op = 11 ∨ op = 12 from by omega) with rfl | rfl | rfl | rfl | rfl | rfl | rfl
    · have N := hid (cnt_7 lt gt eq)
      have hc := cnt_lo lt gt eq 6
      have R1 := hid (R.out 6 (by omega) (by omega))
      generalize cnt lt gt eq 6 = c at *
      generalize hx : bit (tOf lt gt eq 6) = x at *
      have X : x = 0 ∨ x = 1 := by rw [← hx]; exact bit_cases _
      clear hx o6 o12
      rcases X with rfl | rfl
      · go_wp2_with fail
        refine (bin_calls 6 3 n s 3 n' s' hm hm' 256 _).mono ?_
        rintro e w1 ⟨rfl, b1⟩
        rw [R1.out]
        have H1 := hid (held2_on H.out b1)
        clear H b1 z1 c0 c1 c2 c3 c4 c5 l1 l2
        go_wp2
        go_roundw
        case rel => exact ⟨7, by omega, by omega, rfl, by rw [N.out]; simp, held2_on H1.out (box1 _ _)⟩
        case measure => simp [intOf]
      · go_wp2_with fail
        refine (bin_calls 6 3 n s 3 n' s' hm hm' 256 _).mono ?_
        rintro e w1 ⟨rfl, b1⟩
        rw [R1.out]
        have H1 := hid (held2_on H.out b1)
        clear H b1 z1 c0 c1 c2 c3 c4 c5 l1 l2
        go_wp2
        go_roundw
        case rel => exact ⟨7, by omega, by omega, rfl, by rw [N.out], held2_on H1.out (box1 _ _)⟩
        case measure => simp [intOf]
    · have N := hid (cnt_8 lt gt eq)
      have hc := cnt_lo lt gt eq 7
      have R1 := hid (R.out 7 (by omega) (by omega))
      generalize cnt lt gt eq 7 = c at *
      generalize hx : bit (tOf lt gt eq 7) = x at *
      have X : x = 0 ∨ x = 1 := by rw [← hx]; exact bit_cases _
      clear hx o6 o12
      rcases X with rfl | rfl
      · go_wp2_with fail
        refine (bin_calls 7 3 n s 3 n' s' hm hm' 256 _).mono ?_
        rintro e w1 ⟨rfl, b1⟩
        rw [R1.out]
        have H1 := hid (held2_on H.out b1)
        clear H b1 z1 c0 c1 c2 c3 c4 c5 l1 l2
        go_wp2
        go_roundw
        case rel => exact ⟨8, by omega, by omega, rfl, by rw [N.out], held2_on H1.out (box1 _ _)⟩
        case measure => simp [intOf]
      · go_wp2_with fail
        refine (bin_calls 7 3 n s 3 n' s' hm hm' 256 _).mono ?_
        rintro e w1 ⟨rfl, b1⟩
        rw [R1.out]
        have H1 := hid (held2_on H.out b1)
        clear H b1 z1 c0 c1 c2 c3 c4 c5 l1 l2
        go_wp2
        go_roundw
        case rel => exact ⟨8, by omega, by omega, rfl, by rw [N.out], held2_on H1.out (box1 _ _)⟩
        case measure => simp [intOf]
    · have N := hid (cnt_9 lt gt eq)
      have hc := cnt_lo lt gt eq 8
      have R1 := hid (R.out 8 (by omega) (by omega))
      generalize cnt lt gt eq 8 = c at *
      generalize hx : bit (tOf lt gt eq 8) = x at *
      have X : x = 0 ∨ x = 1 := by rw [← hx]; exact bit_cases _
      clear hx o6 o12
      rcases X with rfl | rfl
      · go_wp2_with fail
        refine (bin_calls 8 3 n s 3 n' s' hm hm' 256 _).mono ?_
        rintro e w1 ⟨rfl, b1⟩
        rw [R1.out]
        have H1 := hid (held2_on H.out b1)
        clear H b1 z1 c0 c1 c2 c3 c4 c5 l1 l2
        go_wp2
        go_roundw
        case rel => exact ⟨9, by omega, by omega, rfl, by rw [N.out]; simp, held2_on H1.out (box1 _ _)⟩
        case measure => simp [intOf]
      · go_wp2_with fail
        refine (bin_calls 8 3 n s 3 n' s' hm hm' 256 _).mono ?_
        rintro e w1 ⟨rfl, b1⟩
        rw [R1.out]
        have H1 := hid (held2_on H.out b1)
        clear H b1 z1 c0 c1 c2 c3 c4 c5 l1 l2
        go_wp2
        go_roundw
        case rel => exact ⟨9, by omega, by omega, rfl, by rw [N.out], held2_on H1.out (box1 _ _)⟩
        case measure => simp [intOf]
    · have N := hid (cnt_10 lt gt eq)
      have hc := cnt_lo lt gt eq 9
      have R1 := hid (R.out 9 (by omega) (by omega))
      generalize cnt lt gt eq 9 = c at *
      generalize hx : bit (tOf lt gt eq 9) = x at *
      have X : x = 0 ∨ x = 1 := by rw [← hx]; exact bit_cases _
      clear hx o6 o12
      rcases X with rfl | rfl
      · go_wp2_with fail
        refine (bin_calls 9 3 n s 3 n' s' hm hm' 256 _).mono ?_
        rintro e w1 ⟨rfl, b1⟩
        rw [R1.out]
        have H1 := hid (held2_on H.out b1)
        clear H b1 z1 c0 c1 c2 c3 c4 c5 l1 l2
        go_wp2
        go_roundw
        case rel => exact ⟨10, by omega, by omega, rfl, by rw [N.out], held2_on H1.out (box1 _ _)⟩
        case measure => simp [intOf]
      · go_wp2_with fail
        refine (bin_calls 9 3 n s 3 n' s' hm hm' 256 _).mono ?_
        rintro e w1 ⟨rfl, b1⟩
        rw [R1.out]
        have H1 := hid (held2_on H.out b1)
        clear H b1 z1 c0 c1 c2 c3 c4 c5 l1 l2
        go_wp2
        go_roundw
        case rel => exact ⟨10, by omega, by omega, rfl, by rw [N.out], held2_on H1.out (box1 _ _)⟩
        case measure => simp [intOf]
    · have N := hid (cnt_11 lt gt eq)
      have hc := cnt_lo lt gt eq 10
      have R1 := hid (R.out 10 (by omega) (by omega))
      generalize cnt lt gt eq 10 = c at *
      generalize hx : bit (tOf lt gt eq 10) = x at *
      have X : x = 0 ∨ x = 1 := by rw [← hx]; exact bit_cases _
      clear hx o6 o12
      rcases X with rfl | rfl
      · go_wp2_with fail
        refine (bin_calls 10 3 n s 3 n' s' hm hm' 256 _).mono ?_
        rintro e w1 ⟨rfl, b1⟩
        rw [R1.out]
        have H1 := hid (held2_on H.out b1)
        clear H b1 z1 c0 c1 c2 c3 c4 c5 l1 l2
        go_wp2
        go_roundw
        case rel => exact ⟨11, by omega, by omega, rfl, by rw [N.out]; simp, held2_on H1.out (box1 _ _)⟩
        case measure => simp [intOf]
      · go_wp2_with fail
        refine (bin_calls 10 3 n s 3 n' s' hm hm' 256 _).mono ?_
        rintro e w1 ⟨rfl, b1⟩
        rw [R1.out]
        have H1 := hid (held2_on H.out b1)
        clear H b1 z1 c0 c1 c2 c3 c4 c5 l1 l2
        go_wp2
        go_roundw
        case rel => exact ⟨11, by omega, by omega, rfl, by rw [N.out], held2_on H1.out (box1 _ _)⟩
        case measure => simp [intOf]
    · have N := hid (cnt_12 lt gt eq)
      have hc := cnt_lo lt gt eq 11
      have R1 := hid (R.out 11 (by omega) (by omega))
      generalize cnt lt gt eq 11 = c at *
      generalize hx : bit (tOf lt gt eq 11) = x at *
      have X : x = 0 ∨ x = 1 := by rw [← hx]; exact bit_cases _
      clear hx o6 o12
      rcases X with rfl | rfl
      · go_wp2_with fail
        refine (bin_calls 11 3 n s 3 n' s' hm hm' 256 _).mono ?_
        rintro e w1 ⟨rfl, b1⟩
        rw [R1.out]
        have H1 := hid (held2_on H.out b1)
        clear H b1 z1 c0 c1 c2 c3 c4 c5 l1 l2
        go_wp2
        go_roundw
        case rel => exact ⟨12, by omega, by omega, rfl, by rw [N.out], held2_on H1.out (box1 _ _)⟩
        case measure => simp [intOf]
      · go_wp2_with fail
        refine (bin_calls 11 3 n s 3 n' s' hm hm' 256 _).mono ?_
        rintro e w1 ⟨rfl, b1⟩
        rw [R1.out]
        have H1 := hid (held2_on H.out b1)
        clear H b1 z1 c0 c1 c2 c3 c4 c5 l1 l2
        go_wp2
        go_roundw
        case rel => exact ⟨12, by omega, by omega, rfl, by rw [N.out], held2_on H1.out (box1 _ _)⟩
        case measure => simp [intOf]
    · have hc := hid (cnt_end T.out)
      have R1 := hid (R.out 6 (by omega) (by omega))
      have R2 := hid (R.out 9 (by omega) (by omega))
      rw [hc.out]
      go_wp2_with fail
      refine (bin_calls 6 3 n s 3 n' s' hm hm' 256 _).mono ?_
      rintro e w1 ⟨rfl, b1⟩
      rw [R1.out]
      have H1 := hid (held2_on H.out b1)
      clear H b1 z1 c0 c1 c2 c3 c4 c5 l1 l2
      obtain ⟨z1, _, c0, c1, c2, c3, c4, c5⟩ := H1.out
      have l1 : w.heap.size < w1.heap.size := by omega
      have l2 : w.heap.size + 1 < w1.heap.size := by omega
      go_wp2_with fail
      refine (bin_calls 9 3 n s 3 n' s' hm hm' 256 _).mono ?_
      rintro e w2 ⟨rfl, b2⟩
      rw [R2.out]
      have B2 := hid (below_next H1.out.2.1 b2)
      have D1 := hid (c3_fresh b2)
      clear H1 b2 z1 c0 c1 c2 c3 c4 c5 l1 l2 R1 R2 R T hc
      obtain ⟨l1, c0, c1, c2⟩ := D1.out
      clear D1
      rw [show tOf lt gt eq 6 = lt from rfl] at c1
      rw [show tOf lt gt eq 9 = !lt from rfl]
      cases lt
      · rw [show bit false = 0 from rfl] at *
        rw [show bit (!false) = 1 from rfl]
        go_wp2_with fail
        refine (works_calls _).mono ?_
        rintro e w3 ⟨rfl, b3⟩
        go_wp2
        go_ret
        exact ⟨rfl, below_next B2.out b3⟩
      · rw [show bit true = 1 from rfl] at *
        rw [show bit (!true) = 0 from rfl]
        go_wp2_with fail
        refine (works_calls _).mono ?_
        rintro e w3 ⟨rfl, b3⟩
        go_wp2
        go_ret
        exact ⟨rfl, below_next B2.out b3⟩



theorem walk (k0 n0 : Int) (s0 : ByteArray) (k1 n1 : Int) (s1 : ByteArray) (wk0 : (Lit.int .i64 k0).wf = true) (wn0 : (Lit.int .i64 n0).wf = true) (ws0 : s0.size ≤ maxLen) (wk1 : (Lit.int .i64 k1).wf = true) (wn1 : (Lit.int .i64 n1).wf = true) (ws1 : s1.size ≤ maxLen) (w : World) :
    Calls Try.prog 7 #[.agg #[.int .i64 k0, .int .i64 n0, .string s0], .agg #[.int .i64 k1, .int .i64 n1, .string s1]] w fun e w' => e = .returned (.bool true) ∧ Below w.heap.size w w' := by
  have b0 := bounds_i64 wn0
  have b1 := bounds_i64 wn1
  clear wk0 wn0 wk1 wn1
  by_cases hs : s0.size ≤ 1000 ∧ s1.size ≤ 1000
  · have hsh := hid (shorts_yes hs.1 hs.2)
    rcases (show (k0 = 2 ∧ k1 = 2) ∨ (k0 = 3 ∧ k1 = 3) ∨ k0 ≠ k1 ∨ (k0 = k1 ∧ k0 ≠ 2 ∧ k0 ≠ 3) from by omega) with ⟨rfl, rfl⟩ | ⟨rfl, rfl⟩ | hne | ⟨rfl, n2, n3⟩
    · cases ha : rightB 2 n0 s0.data.toList
      · have Ha := hid ha
        clear ws0 ws1 ha
        go_enter Try.func7, Try.ntmps7
        go_wp2_with fail
        refine (short2_calls _ s0 s1 _ (six2 _ (by simp) _ _ _ _ _ _ _) (six5 _ (by simp) _ _ _ _ _ _ _)).mono ?_
        rintro e wx ⟨rfl, rfl⟩
        rw [hsh.out]
        go_wp2_with fail
        refine (refright_calls 2 n0 b0.1 b0.2 s0 _).mono ?_
        rintro e w1 ⟨rfl, q1⟩
        rw [Ha.out]
        go_wp2_with fail
        refine (works_calls _).mono ?_
        rintro e w5 ⟨rfl, b5⟩
        go_wp2
        go_ret
        exact ⟨rfl, below_on (below_on (below_on (box2 _ _ _) (box1 _ _)) q1) b5⟩
      · cases hb : rightB 2 n1 s1.data.toList
        · have Ha := hid ha
          have Hb := hid hb
          clear ws0 ws1 ha hb
          have H0 := hid (held2_on (held2p w (.int .i64 2) (.int .i64 n0) (.string s0) (.int .i64 2) (.int .i64 n1) (.string s1) 23 23)
            (box1 _ (Obj.cells #[.int .i64 2, .int .i64 n0, .string s0, .int .i64 2, .int .i64 n1, .string s1] 23)))
          go_enter Try.func7, Try.ntmps7
          go_wp2_with fail
          refine (short2_calls _ s0 s1 _ (six2 _ (by simp) _ _ _ _ _ _ _) (six5 _ (by simp) _ _ _ _ _ _ _)).mono ?_
          rintro e wx ⟨rfl, rfl⟩
          rw [hsh.out]
          go_wp2_with fail
          refine (refright_calls 2 n0 b0.1 b0.2 s0 _).mono ?_
          rintro e w1 ⟨rfl, q1⟩
          rw [Ha.out]
          have H1 := hid (held2_on H0.out q1)
          clear H0 q1
          obtain ⟨z1, _, c0, c1, c2, c3, c4, c5⟩ := H1.out
          have l1 : w.heap.size < w1.heap.size := by omega
          have l2 : w.heap.size + 1 < w1.heap.size := by omega
          go_wp2_with fail
          refine (refright_calls 2 n1 b1.1 b1.2 s1 _).mono ?_
          rintro e w2 ⟨rfl, q2⟩
          rw [Hb.out]
          have B2 := hid (below_on H1.out.2.1 q2)
          clear H1 q2 z1 c0 c1 c2 c3 c4 c5 l1 l2
          go_wp2_with fail
          refine (works_calls _).mono ?_
          rintro e w5 ⟨rfl, b5⟩
          go_wp2
          go_ret
          exact ⟨rfl, below_on B2.out b5⟩
        · exact walk2 n0 s0 n1 s1 b0.1 b0.2 b1.1 b1.2 (by omega) (by omega) hsh (hid ha) (hid hb) _ _ _ (hid (fun op h6 h11 => ord_out h6 h11 (.inl ⟨rfl, rfl, rfl⟩) rfl)) (hid (int_tri ha hb)) w
    · cases ha : rightB 3 n0 s0.data.toList
      · have Ha := hid ha
        clear ws0 ws1 ha
        go_enter Try.func7, Try.ntmps7
        go_wp2_with fail
        refine (short2_calls _ s0 s1 _ (six2 _ (by simp) _ _ _ _ _ _ _) (six5 _ (by simp) _ _ _ _ _ _ _)).mono ?_
        rintro e wx ⟨rfl, rfl⟩
        rw [hsh.out]
        go_wp2_with fail
        refine (refright_calls 3 n0 b0.1 b0.2 s0 _).mono ?_
        rintro e w1 ⟨rfl, q1⟩
        rw [Ha.out]
        go_wp2_with fail
        refine (works_calls _).mono ?_
        rintro e w5 ⟨rfl, b5⟩
        go_wp2
        go_ret
        exact ⟨rfl, below_on (below_on (below_on (box2 _ _ _) (box1 _ _)) q1) b5⟩
      · cases hb : rightB 3 n1 s1.data.toList
        · have Ha := hid ha
          have Hb := hid hb
          clear ws0 ws1 ha hb
          have H0 := hid (held2_on (held2p w (.int .i64 3) (.int .i64 n0) (.string s0) (.int .i64 3) (.int .i64 n1) (.string s1) 23 23)
            (box1 _ (Obj.cells #[.int .i64 3, .int .i64 n0, .string s0, .int .i64 3, .int .i64 n1, .string s1] 23)))
          go_enter Try.func7, Try.ntmps7
          go_wp2_with fail
          refine (short2_calls _ s0 s1 _ (six2 _ (by simp) _ _ _ _ _ _ _) (six5 _ (by simp) _ _ _ _ _ _ _)).mono ?_
          rintro e wx ⟨rfl, rfl⟩
          rw [hsh.out]
          go_wp2_with fail
          refine (refright_calls 3 n0 b0.1 b0.2 s0 _).mono ?_
          rintro e w1 ⟨rfl, q1⟩
          rw [Ha.out]
          have H1 := hid (held2_on H0.out q1)
          clear H0 q1
          obtain ⟨z1, _, c0, c1, c2, c3, c4, c5⟩ := H1.out
          have l1 : w.heap.size < w1.heap.size := by omega
          have l2 : w.heap.size + 1 < w1.heap.size := by omega
          go_wp2_with fail
          refine (refright_calls 3 n1 b1.1 b1.2 s1 _).mono ?_
          rintro e w2 ⟨rfl, q2⟩
          rw [Hb.out]
          have B2 := hid (below_on H1.out.2.1 q2)
          clear H1 q2 z1 c0 c1 c2 c3 c4 c5 l1 l2
          go_wp2_with fail
          refine (works_calls _).mono ?_
          rintro e w5 ⟨rfl, b5⟩
          go_wp2
          go_ret
          exact ⟨rfl, below_on B2.out b5⟩
        · exact walk3 n0 s0 n1 s1 b0.1 b0.2 b1.1 b1.2 (by omega) (by omega) hsh (hid ha) (hid hb) _ _ _ (hid (fun op h6 h11 => ord_out h6 h11 (.inr ⟨rfl, rfl, rfl⟩) rfl)) (hid (str_tri ha hb)) w
    · have hne' : (k0 != k1) = true := bne_iff_ne.2 hne
      clear hne b0 b1 ws0 ws1 hs
      go_enter Try.func7, Try.ntmps7
      go_wp2_with fail
      refine (short2_calls _ s0 s1 _ (six2 _ (by simp) _ _ _ _ _ _ _) (six5 _ (by simp) _ _ _ _ _ _ _)).mono ?_
      rintro e wx ⟨rfl, rfl⟩
      rw [hsh.out]
      go_wp2_with fail
      refine (works_calls _).mono ?_
      rintro e w5 ⟨rfl, b5⟩
      go_wp2
      go_ret
      exact ⟨rfl, below_on (below_on (box2 _ _ _) (box1 _ _)) b5⟩
    · have n2' : (k0 != 2) = true := bne_iff_ne.2 n2
      have n3' : (k0 != 3) = true := bne_iff_ne.2 n3
      clear n2 n3 b0 b1 ws0 ws1 hs
      go_enter Try.func7, Try.ntmps7
      go_wp2_with fail
      refine (short2_calls _ s0 s1 _ (six2 _ (by simp) _ _ _ _ _ _ _) (six5 _ (by simp) _ _ _ _ _ _ _)).mono ?_
      rintro e wx ⟨rfl, rfl⟩
      rw [hsh.out]
      go_wp2_with fail
      refine (works_calls _).mono ?_
      rintro e w5 ⟨rfl, b5⟩
      go_wp2
      go_ret
      exact ⟨rfl, below_on (below_on (box2 _ _ _) (box1 _ _)) b5⟩
  · have hsh := hid (shorts_no hs)
    clear b0 b1 ws0 ws1 hs
    go_enter Try.func7, Try.ntmps7
    go_wp2_with fail
    refine (short2_calls _ s0 s1 _ (six2 _ (by simp) _ _ _ _ _ _ _) (six5 _ (by simp) _ _ _ _ _ _ _)).mono ?_
    rintro e wx ⟨rfl, rfl⟩
    rw [hsh.out]
    go_wp2_with fail
    refine (works_calls _).mono ?_
    rintro e w5 ⟨rfl, b5⟩
    go_wp2
    go_ret
    exact ⟨rfl, below_on (below_on (box2 _ _ _) (box1 _ _)) b5⟩

set_option maxRecDepth 100000 in
theorem lifted (os : Os) (started : os.Started) (H : Type) (enc : TypeId × Value → H) :
    ReturnsInHanded {} Try.checked os 7 .any (Rows.opsOrderSpec.pre6 enc Try.prog Try.f7 Rows.opsOrderRow.domain false) (Rows.opsOrderSpec.post enc Try.prog Try.f7 false true false false) := by
  refine returnsInHanded_of_change (C := Try.checked) own started (by kernel_rfl) Try.func7
    (ChangeSpec.witness6 (enc := enc) (C := Try.checked) false ⟨#[], #[.agg #[.int .i64 0, .int .i64 0, .string ByteArray.empty], .agg #[.int .i64 0, .int .i64 0, .string ByteArray.empty]], []⟩ 8 (by kernel_rfl) (by kernel_rfl) (by kernel_rfl) (by kernel_rfl)) ?_
  intro W base args ds gs before hval0 hW hcnd _
  have hval : ∀ (j : Nat) t v, Try.f7.params[j]? = some t → args[j]? = some v → Value.okWide Try.prog W .any base t v := hval0
  have hW' := hW
  obtain ⟨p, q, hA0, hV, rfl, hfz, hnd⟩ := hW
  have hA : DataW.TrodAll enc Try.prog W 0 (fun _ => true) true Try.f7.params.toList args.toList ds p := hA0
  rw [Try.params7] at hA hval
  obtain ⟨v0, vs0, d0, ds0, p0, q0, hargs, rfl, rfl, h0, r0⟩ := trodAll_cons hA
  obtain ⟨v1, vs1, d1, ds1, p1, q1, rfl, rfl, rfl, h1, r1⟩ := trodAll_cons r0
  obtain ⟨rfl, rfl, rfl⟩ := trodAll_nil r1
  obtain rfl : args = #[v0, v1] := by cases args; simp_all
  obtain ⟨rfl, rfl⟩ := trodVars_none hV
  obtain ⟨k0, n0, s0, rfl, rfl, rfl, wk0, wn0, ws0⟩ := open_value (hval 0 23 v0 rfl rfl) h0
  obtain ⟨k1, n1, s1, rfl, rfl, rfl, wk1, wn1, ws1⟩ := open_value (hval 1 23 v1 rfl rfl) h1
  clear hA0 hval0
  refine (walk k0 n0 s0 k1 n1 s1 wk0 wn0 ws0 wk1 wn1 ws1 W).mono fun e W' ⟨he, hg⟩ => ?_
  subst he
  exact ⟨_, rfl, _, _, _, [], _, [], hW', trodAll_mk1 (shut_bool Try.underlying4 _), (trodAll_cons_mk (shut_value wk0 wn0 ws0) (trodAll_cons_mk (shut_value wk1 wn1 ws1) trodAll_mk0)), rfl, hg.frame _, fun h => by cases h⟩

theorem over : Rows.opsOrderRow.holds Try.pinned (OpenSpec.ofChange Rows.opsOrderSpec) :=
  OpenClaim.holds_of_wide 7 Try.f7 rfl rfl rfl rfl rfl rfl rfl ⟨rfl, rfl, rfl, rfl, rfl⟩ rfl rfl rfl rfl rfl (by kernel_rfl) Try.func7 (by kernel_rfl)
    (of_decide_eq_true (by kernel_rfl)) (by unfold Func.isWrapper; first | (rw [if_pos (by decide +kernel)]; kernel_rfl) | (rw [if_neg (by decide +kernel)]; exact ⟨rfl, rfl⟩))
    (fun os started H enc _ => lifted os started H enc)

end Go.Proofs.Ytpagacgkcpgicaa.opsOrder
namespace Go.Proofs.Ytpagacgkcpgicaa

/-- the statement, as it was given -/
theorem opsOrder_holds : Rows.OpsOrderSaid :=
  opsOrder.over
#print axioms opsOrder_holds
end Go.Proofs.Ytpagacgkcpgicaa
