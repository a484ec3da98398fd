/- Texts that came in; a table that works; a table that is none. -/
import Derived.Test.YtblejdoceppfjaaNmOf
import Derived.Test.YtblejdoceppfjaaOpenFlat
import Derived.Lib.Strings
namespace Go.Proofs.Ytblejdoceppfjaa
set_option linter.unusedSimpArgs false
open Go.RowKit

def txC (s : ByteArray) : List Value := [.string s]
theorem texts_of {l : List (List Value)} (h : ∀ r ∈ l, r.length = 1 ∧ Fits [.s] r) : ∃ xs : List ByteArray, l = xs.map txC ∧ ∀ x ∈ xs, x.size ≤ maxLen := by
  apply rows_map
  intro r hr
  obtain ⟨hl, hf0⟩ := h r hr
  obtain ⟨_, c0, rfl, ⟨y0, rfl, q0⟩, hf1⟩ := fits_cons hf0
  have e : c0 = [] := List.length_eq_zero_iff.1 (by simpa using hl)
  subst e
  exact ⟨y0, rfl, q0⟩
theorem texts_shape {v : Value} {xs : List ByteArray} {w : World} (h : RowsArg 1 v (xs.map txC) w) : ∃ ao cap, v = .slice ao xs.length cap := by
  rcases h with ⟨ao, cap, rfl, h⟩ | ⟨b, off, cap, rfl, _⟩
  · have : xs = [] := by simpa using h
    subst this
    exact ⟨ao, cap, rfl⟩
  · exact ⟨_, cap, by rw [List.length_map]⟩
theorem text_at {ao : Option Addr} {cap j : Nat} {xs : List ByteArray} {w : World} (h : RowsArg 1 (.slice ao xs.length cap) (xs.map txC) w) {s : ByteArray} (hj : xs[j]? = some s) :
    ∃ b off, ao = some ⟨b, off, none⟩ ∧ b < w.heap.size ∧ w.cell? ⟨b, off + j, none⟩ = some (.string s) := by
  rcases h with ⟨ao', cap', he, h⟩ | ⟨b, off, cap', he, hb, hr⟩
  · have : xs = [] := by simpa using h
    subst this
    simp at hj
  · injection he with he1
    subst he1
    have hm : (xs.map txC)[j]? = some (txC s) := by simp [hj]
    have := hr j _ hm 0 _ rfl
    exact ⟨b, off, rfl, hb, by simpa using this⟩
theorem rowsArg_in {B z : Nat} {v : Value} {l : List (List Value)} {a c : World} (h : RowsArg z v l a) (hB : a.heap.size ≤ B) (k : Below B a c) : RowsArg z v l c := by
  rcases h with h | ⟨b, off, cap, h1, h2, h3⟩
  · exact .inl h
  · exact .inr ⟨b, off, cap, h1, Nat.lt_of_lt_of_le h2 k.size, fun i r hi j u hj => (k.cell (p := ⟨b, off + i * z + j, none⟩) (show b < B by omega)).trans (h3 i r hi j u hj)⟩
/-- are texts longer, or more, than statements go? -/
def longT (xs : List ByteArray) : Bool := !(decide (xs.length ≤ 101) && xs.all (fun s => decide (s.size ≤ 300)))
theorem not_longT {xs : List ByteArray} (h : longT xs = false) : xs.length ≤ 101 ∧ ∀ s ∈ xs, s.size ≤ 300 := by
  simpa [longT] using h
theorem longT_more {xs : List ByteArray} (h : 101 < xs.length) : longT xs = true := by
  unfold longT
  simp [show ¬ xs.length ≤ 101 by omega]
theorem longT_text {xs : List ByteArray} {s : ByteArray} (hs : s ∈ xs) (h : 300 < s.size) : longT xs = true := by
  unfold longT
  rw [Bool.not_eq_true', Bool.and_eq_false_iff]
  right
  rw [List.all_eq_false]
  exact ⟨s, hs, by simp; omega⟩
theorem longT_none {xs : List ByteArray} (h1 : xs.length ≤ 101) (h : ∀ i s, i < xs.length → xs[i]? = some s → s.size ≤ 300) : longT xs = false := by
  unfold longT
  rw [Bool.not_eq_false', Bool.and_eq_true]
  refine ⟨decide_eq_true h1, ?_⟩
  rw [List.all_eq_true]
  intro s hs
  obtain ⟨i, hi⟩ := List.getElem?_of_mem hs
  exact decide_eq_true (h i s (List.getElem?_eq_some_iff.1 hi).1 hi)

set_option maxHeartbeats 1000000 in
theorem tlong_calls {ao : Option Addr} {cap : Nat} {xs : List ByteArray} (w : World) (h : RowsArg 1 (.slice ao xs.length cap) (xs.map txC) w) (hx : ∀ x ∈ xs, x.size ≤ maxLen) :
    Calls Try.prog 7 #[.slice ao xs.length cap] w fun e w' => e = .returned (.bool (longT xs)) ∧ w' = w := by
  have H := hid h
  have HX := hid hx
  clear h hx
  go_enter Try.func7, Try.ntmps7
  go_wp2_with fail
  go_loopw [3] (fun i wr => ∃ j : Nat, j ≤ xs.length ∧ j ≤ 101 ∧ i = .int .i64 j ∧ Hid (∀ i s, i < j → xs[i]? = some s → s.size ≤ 300) ∧ wr = w) (fun i _ => xs.length - (intOf i).toNat)
  case atStart => exact ⟨0, by omega, by omega, rfl, hid (fun i e hi => absurd hi (Nat.not_lt_zero _)), rfl⟩
  case round =>
    obtain ⟨j, hj, hj1, rfl, hA, rfl⟩ := hrel
    by_cases hjl : j < xs.length
    · obtain ⟨s, hs⟩ : ∃ e, xs[j]? = some e := ⟨xs[j], List.getElem?_eq_getElem hjl⟩
      obtain ⟨b, off, rfl, hb, c0⟩ := text_at H.out hs
      have hsz := HX.out s (List.mem_of_getElem? hs)
      by_cases h101 : j = 101
      · subst h101
        have HV := hid (longT_more hjl)
        go_wp2_with fail
        go_ret
        exact ⟨by rw [HV.out]; rfl, rfl⟩
      · have d1 : decide ((100 : Int) < (j : Int)) = false := decide_eq_false (by omega)
        by_cases h3 : 300 < s.size
        · have HV := hid (longT_text (List.mem_of_getElem? hs) h3)
          have d2 : decide ((300 : Int) < (s.size : Int)) = true := decide_eq_true (by omega)
          go_wp2_with fail
          go_ret
          exact ⟨by rw [HV.out]; rfl, rfl⟩
        · have d2 : decide ((300 : Int) < (s.size : Int)) = false := decide_eq_false (by omega)
          have HA := hid (show ∀ i s, i < j + 1 → xs[i]? = some s → s.size ≤ 300 from fun i e' hi he' => by
            rcases Nat.lt_or_ge i j with h1 | h1
            · exact hA.out i e' h1 he'
            · have : i = j := by omega
              subst this
              rw [hs] at he'
              cases he'
              omega)
          clear h3 hA
          go_wp2_with fail
          exact ⟨⟨j + 1, by omega, by omega, by simp, HA, trivial⟩, by simp [intOf]; omega⟩
    · have hje : j = xs.length := by omega
      subst hje
      have HV := hid (longT_none hj1 hA.out)
      go_wp2_with fail
      go_ret
      exact ⟨by rw [HV.out]; rfl, rfl⟩

theorem tof0 {B t : Nat} {L : List ByteArray} (w : World) (h : NmS (fun b => B ≤ b) t L w) (hB : B ≤ w.heap.size) (s : ByteArray) (hs : s.size ≤ maxLen) (hl : L.length ≤ 1000000) :
    Calls Try.prog 10 #[.pointer (some ⟨t, 0, none⟩), .string s] w fun e w' => e = .returned (.int .i64 (numT L s : Int)) ∧ NmS (fun b => B ≤ b) t (ofT L s) w' ∧ Below B w w' :=
  (tof_calls w h s hs hl).mono fun e w' h => ⟨h.1, h.2.1.mono (fun b _ hb => by rcases hb with hb | hb <;> omega), h.2.2.below hB (fun _ h => h)⟩

set_option maxHeartbeats 1000000 in
theorem tworks_calls (w : World) : Calls Try.prog 8 #[] w fun e w' => e = .returned (.bool true) ∧ Below w.heap.size w w' := by
  go_enter Try.func8, Try.ntmps8
  go_wp2_with fail
  refine (tnew_calls _).mono ?_
  rintro e0 w0 ⟨t, rfl, h0, b0⟩
  have H0 := hid h0
  have B0 := hid b0
  have hs0 := hid b0.size
  clear h0 b0
  go_wp2_with fail
  refine (tof0 _ H0.out hs0.out ⟨#[97]⟩ (by decide) (by decide)).mono ?_
  rintro e1 w1 ⟨rfl, h1, b1⟩
  have H1 := hid h1
  have B1 := hid (B0.out.trans b1)
  have hs1 := hid (B1.out.size)
  clear h1 b1 H0 B0 hs0
  go_wp2_with fail
  refine (tof0 _ H1.out hs1.out ⟨#[98]⟩ (by decide) (by decide)).mono ?_
  rintro e2 w2 ⟨rfl, h2, b2⟩
  have H2 := hid h2
  have B2 := hid (B1.out.trans b2)
  have hs2 := hid (B2.out.size)
  clear h2 b2 H1 B1 hs1
  go_wp2_with fail
  refine (tof0 _ H2.out hs2.out ⟨#[97]⟩ (by decide) (by decide)).mono ?_
  rintro e3 w3 ⟨rfl, h3, b3⟩
  rw [show ofT (ofT (ofT [] ⟨#[97]⟩) ⟨#[98]⟩) ⟨#[97]⟩ = [⟨#[97]⟩, ⟨#[98]⟩] from by decide] at h3
  rw [show numT (ofT (ofT [] ⟨#[97]⟩) ⟨#[98]⟩) ⟨#[97]⟩ = 1 from by decide, show numT (ofT [] ⟨#[97]⟩) ⟨#[98]⟩ = 2 from by decide, show numT [] ⟨#[97]⟩ = 1 from by decide]
  have H3 := hid h3
  have B3 := hid (B2.out.trans b3)
  clear h3 b3 H2 B2 hs2
  go_wp2_with fail
  refine (ttext_some (i := 1) (s := ⟨#[98]⟩) _ H3.out rfl (by decide)).mono ?_
  rintro e4 w4 ⟨rfl, rfl⟩
  go_wp2_with fail
  refine (tlen_calls _ H3.out).mono ?_
  rintro e5 w5 ⟨rfl, rfl⟩
  go_wp2_with fail
  go_ret
  exact ⟨rfl, B3.out⟩

/-- no table: nil, or one that no call made -/
def NoTab (v : Value) (w : World) : Prop := v = .pointer none ∨ ∃ d, v = .pointer (some ⟨d, 0, none⟩) ∧ d < w.heap.size ∧ w.cell? ⟨d, 0, none⟩ = some (.pointer none)
theorem noTab_on {v : Value} {a c : World} (h : NoTab v a) (k : Below a.heap.size a c) : NoTab v c := by
  rcases h with h | ⟨d, h1, h2, h3⟩
  · exact .inl h
  · exact .inr ⟨d, h1, Nat.lt_of_lt_of_le h2 k.size, (k.cell (p := ⟨d, 0, none⟩) h2).trans h3⟩
theorem noTab_shape {v : Value} {w : World} (h : NoTab v w) : ∃ a, v = .pointer a := by
  rcases h with rfl | ⟨d, rfl, _⟩
  · exact ⟨_, rfl⟩
  · exact ⟨_, rfl⟩
theorem tmade_no {v : Value} (w : World) (h : NoTab v w) : Calls Try.prog 17 #[v] w fun e w' => e = .returned (.bool false) ∧ w' = w := by
  rcases h with rfl | ⟨d, rfl, _, h⟩
  · go_enter Try.func17, Try.ntmps17
    go_wp2_with fail
    go_ret
    exact ⟨rfl, rfl⟩
  · go_enter Try.func17, Try.ntmps17
    go_wp2_with fail
    go_ret
    exact ⟨rfl, rfl⟩
theorem tlen_no {v : Value} (w : World) (h : NoTab v w) : Calls Try.prog 12 #[v] w fun e w' => e = .returned (.int .i64 0) ∧ w' = w := by
  have HD := hid h
  obtain ⟨a, rfl⟩ := noTab_shape h
  clear h
  go_enter Try.func12, Try.ntmps12
  go_wp2_with fail
  refine (tmade_no _ HD.out).mono ?_
  rintro e1 w1 ⟨rfl, rfl⟩
  go_wp2_with fail
  go_ret
  exact ⟨rfl, rfl⟩
theorem tof_no {v : Value} (w : World) (h : NoTab v w) (s : ByteArray) : Calls Try.prog 10 #[v, .string s] w fun e w' => e = .returned (.int .i64 0) ∧ w' = w := by
  have HD := hid h
  obtain ⟨a, rfl⟩ := noTab_shape h
  clear h
  go_enter Try.func10, Try.ntmps10
  go_wp2_with fail
  refine (tmade_no _ HD.out).mono ?_
  rintro e1 w1 ⟨rfl, rfl⟩
  go_wp2_with fail
  go_ret
  exact ⟨rfl, rfl⟩
theorem tfind_no {v : Value} (w : World) (h : NoTab v w) (s : ByteArray) : Calls Try.prog 13 #[v, .string s] w fun e w' => e = .returned (.tuple #[.int .i64 0, .bool false]) ∧ w' = w := by
  have HD := hid h
  obtain ⟨a, rfl⟩ := noTab_shape h
  clear h
  go_enter Try.func13, Try.ntmps13
  go_wp2_with fail
  refine (tmade_no _ HD.out).mono ?_
  rintro e1 w1 ⟨rfl, rfl⟩
  go_wp2_with fail
  go_ret2
  exact ⟨rfl, rfl⟩
theorem ttext_no {v : Value} (w : World) (h : NoTab v w) (i : Int) : Calls Try.prog 15 #[v, .int .i64 i] w fun e w' => e = .returned (.tuple #[.string ⟨#[]⟩, .bool false]) ∧ w' = w := by
  have HL := hid (tlen_no w h)
  obtain ⟨a, rfl⟩ := noTab_shape h
  clear h
  by_cases h0 : i < 1
  · go_enter Try.func15, Try.ntmps15
    go_wp2_with fail
    go_ret2
    exact ⟨rfl, rfl⟩
  · have d1 : decide (i < 1) = false := decide_eq_false h0
    have d2 : decide (0 < i) = true := decide_eq_true (by omega)
    clear h0
    go_enter Try.func15, Try.ntmps15
    go_wp2_with fail
    refine HL.out.mono ?_
    rintro e1 w1 ⟨rfl, rfl⟩
    go_wp2_with fail
    go_ret2
    exact ⟨rfl, rfl⟩

end Go.Proofs.Ytblejdoceppfjaa
