/- What text.Take answers, for any text. -/
import Derived.Test.YtnojlfdojmkonaaGreatDoorTxtTakes
import Derived.Deep.RegionWith
namespace Go.Proofs.YtnojlfdojmkonaaGreatDoor
open Go.RowKit

theorem go_close {f : Nat} {l acc : List UInt8} {k : Nat} {out : List UInt8 × Nat × Int} (h : takeGo f l k acc = out) (hf : l.length < f) (hl : lookN l = 34) : out = (acc, k + 1, 0) := by
  match f, l with
  | f + 1, [] => simp [lookN] at hl
  | f + 1, c :: r => rw [← h, takeGo, if_pos (by exact hl)]
theorem go_fail {f : Nat} {l acc : List UInt8} {k n : Nat} {out : List UInt8 × Nat × Int} (h : takeGo f l k acc = out) (hf : l.length < f) (hl : lookN l ≠ 34) (ho : oneOf l = (none, n)) : out = ([], k + n, 11) := by
  match f, l with
  | f + 1, [] => simp [oneOf] at ho; rw [← h, takeGo, ← ho]; rfl
  | f + 1, c :: r => rw [← h, takeGo, if_neg (by exact hl), ho]
theorem go_next {f : Nat} {l acc : List UInt8} {k n : Nat} {b : UInt8} {out : List UInt8 × Nat × Int} (h : takeGo f l k acc = out) (hf : l.length < f) (ho : oneOf l = (some b, n)) :
    ∃ f', takeGo f' (l.drop n) (k + n) (acc ++ [b]) = out ∧ (l.drop n).length < f' ∧ 1 ≤ n ∧ n ≤ l.length := by
  have hn := oneOf_pos ho
  have hle := oneOf_le l
  rw [ho] at hle
  match f, l with
  | f + 1, [] => simp [oneOf] at ho
  | f + 1, c :: r =>
    rw [takeGo_step ho] at h
    refine ⟨f, h, ?_, hn, hle⟩
    simp only [List.length_drop]
    simp at hf hle ⊢
    omega

/-- the reader's place, as the world holds it -/
def atOf (b : Nat) (w : World) : Nat := match w.cell? ⟨b, 3, none⟩ with | some (.int _ n) => n.toNat | _ => 0
theorem Rdr.atOf {s : ByteArray} {B b k : Nat} {acc : List UInt8} {w : World} (h : Rdr s B b k acc w) : atOf b w = k := by
  unfold YtnojlfdojmkonaaGreatDoor.atOf; rw [h.at]; simp

set_option maxHeartbeats 1600000 in
set_option maxRecDepth 100000 in
theorem whole_calls (s : ByteArray) (hs : s.size ≤ 1000000) (B b : Nat) (w : World) (h : Rdr s B b 0 [] w) :
    Calls Tryz.prog 97 #[.pointer (some ⟨b, 0, none⟩)] w fun e w' => ∃ (k : Nat) (acc : List UInt8), Rdr s B b k acc w' ∧ Below B w w' ∧
      ((e = .returned (.bool true) ∧ takeOut s.data.toList = (acc, k, 0)) ∨ (e = .returned (.bool false) ∧ takeOut s.data.toList = ([], k, 11))) := by
  have HR := hid h
  clear h
  by_cases h34 : lookN (s.data.toList.drop 0) = 34
  · have H34 := hid h34
    have hpos : 0 < s.size := by
      rcases Nat.lt_or_ge 0 s.size with h' | h'
      · exact h'
      · rw [drop_end s 0 h'] at h34; simp [lookN] at h34
    have hd := drop_byte s 0 hpos
    have hout : takeOut s.data.toList = takeGo ((s.data.toList.drop 1).length + 1) (s.data.toList.drop 1) 1 [] := by
      rw [List.drop_zero] at hd h34
      conv => lhs; rw [hd]
      rw [hd] at h34
      simp only [takeOut]
      rw [if_pos (by exact h34)]
    have HO := hid hout
    clear h34 hd hout
    go_enter Tryz.func97, Tryz.ntmps97
    go_wp2_with fail
    refine (skip_yes s hs B b 0 [] 34 (by omega) _ HR.out H34.out).mono ?_
    rintro e w1 ⟨rfl, h1, b1⟩
    have H1 := hid h1
    have B1 := hid b1
    clear h1 b1
    go_wp2_with fail
    go_loopw [] (fun wr => ∃ (k f : Nat) (acc : List UInt8), k ≤ s.size ∧ acc.length ≤ k ∧ takeGo f (s.data.toList.drop k) k acc = takeOut s.data.toList ∧ (s.data.toList.drop k).length < f ∧ Rdr s B b k acc wr ∧ Below B w wr) (fun wr => s.size - atOf b wr)
    case atStart => exact ⟨1, _, [], hpos, by simp, HO.out.symm, by omega, H1.out, B1.out⟩
    case round =>
      clear H1 B1 HO HR H34
      obtain ⟨k, f, acc, hk, hak, hgo, hf, hR, hB⟩ := hrel
      have HR := hid hR
      have HB := hid hB
      have HG := hid hgo
      have HF := hid hf
      clear hR hB hgo hf
      by_cases h34 : lookN (s.data.toList.drop k) = 34
      · have HO := hid (go_close HG.out HF.out h34)
        have H34 := hid h34
        clear h34
        go_wp2_with fail
        refine (skip_yes s hs B b k acc 34 hk _ HR.out H34.out).mono ?_
        rintro e w2 ⟨rfl, h2, b2⟩
        have H2 := hid h2
        have B2 := hid (HB.out.trans b2)
        clear h2 b2
        go_wp2
        go_ret
        exact ⟨k + 1, acc, H2.out, B2.out, Or.inl ⟨rfl, HO.out⟩⟩
      · have H34 := hid h34
        cases hone : oneOf (s.data.toList.drop k) with
        | mk o n =>
          have HOne := hid hone
          clear hone
          cases o with
          | none =>
            have HO := hid (go_fail HG.out HF.out h34 HOne.out)
            clear h34
            go_wp2_with fail
            refine (skip_no s B b k acc 34 hk _ HR.out H34.out).mono ?_
            rintro e w2 ⟨rfl, h2, b2⟩
            have H2 := hid h2
            have B2 := hid (HB.out.trans b2)
            clear h2 b2
            go_wp2_with fail
            refine (one_calls s hs B b k acc hk (by omega) _ H2.out none n HOne.out).mono ?_
            rintro e w3 ⟨rfl, h3, b3⟩
            have H3 := hid h3
            have B3 := hid (B2.out.trans b3)
            clear h3 b3
            go_wp2
            go_ret
            exact ⟨k + n, acc ++ none.toList, H3.out, B3.out, Or.inr ⟨rfl, HO.out⟩⟩
          | some c =>
            obtain ⟨f', hg', hf', hn1, hn2⟩ := go_next HG.out HF.out HOne.out
            have HG' := hid hg'
            have HF' := hid hf'
            rw [List.length_drop, list_size] at hn2
            clear h34 hg' hf'
            go_wp2_with fail
            refine (skip_no s B b k acc 34 hk _ HR.out H34.out).mono ?_
            rintro e w2 ⟨rfl, h2, b2⟩
            have H2 := hid h2
            have B2 := hid (HB.out.trans b2)
            clear h2 b2
            go_wp2_with fail
            refine (one_calls s hs B b k acc hk (by omega) _ H2.out (some c) n HOne.out).mono ?_
            rintro e w3 ⟨rfl, h3, b3⟩
            have H3 := hid h3
            have B3 := hid (B2.out.trans b3)
            clear h3 b3
            go_wp2
            refine ⟨⟨k + n, f', acc ++ [c], by omega, by simp; omega, by rw [← List.drop_drop]; exact HG'.out, by rw [← List.drop_drop]; exact HF'.out, H3.out, B3.out⟩, ?_⟩
            rw [H3.out.atOf, HR.out.atOf]
            omega
  · have hout : takeOut s.data.toList = ([], 0, 11) := by
      rw [List.drop_zero] at h34
      cases hd : s.data.toList with
      | nil => rfl
      | cons c r => rw [hd] at h34; simp only [takeOut]; rw [if_neg (by exact h34)]
    have HO := hid hout
    have H34 := hid h34
    clear hout h34
    go_enter Tryz.func97, Tryz.ntmps97
    go_wp2_with fail
    refine (skip_no s B b 0 [] 34 (by omega) _ HR.out H34.out).mono ?_
    rintro e w1 ⟨rfl, h1, b1⟩
    have H1 := hid h1
    have B1 := hid b1
    clear h1 b1
    go_wp2
    go_ret
    exact ⟨0, [], H1.out, B1.out, Or.inr ⟨rfl, HO.out⟩⟩

set_option maxHeartbeats 1600000 in
set_option maxRecDepth 100000 in
theorem take_calls (s : ByteArray) (hs : s.size ≤ 1000000) (w : World) :
    Calls Tryz.prog 88 #[.string s] w fun e w' =>
      e = .returned (.tuple #[.string ⟨(takeOut s.data.toList).1.toArray⟩, .int .i64 ((takeOut s.data.toList).2.1 : Int), .int .i64 (takeOut s.data.toList).2.2]) ∧ Below w.heap.size w w' := by
  have hnew : Rdr s w.heap.size w.heap.size 0 [] (w.alloc (.cells #[.pointer none, .slice none 0 0, .string s, .int .i64 0] 128)) := has_new 128 [.string s, .int .i64 0] w _ rfl
  have hb0 : Below w.heap.size w (w.alloc (.cells #[.pointer none, .slice none 0 0, .string s, .int .i64 0] 128)) := (Below.refl _ w).alloc (Nat.le_refl _) _
  have H0 := hid hnew
  have B0 := hid hb0
  clear hnew hb0
  go_enter Tryz.func88, Tryz.ntmps88
  go_wp2_with fail
  refine (whole_calls s hs _ _ _ H0.out).mono ?_
  rintro e w1 ⟨k, acc, h1, b1, (⟨rfl, ho⟩ | ⟨rfl, ho⟩)⟩
  · have H1 := hid h1
    have B1 := hid (B0.out.trans b1)
    have ca : w1.drew.cell? ⟨w.heap.size, 3, none⟩ = some (.int .i64 (k : Int)) := h1.drew.at
    have HO := hid ho
    have HD := hid h1.drew
    clear h1 b1 ho
    go_wp2_with fail
    go_region_with (go_at_call 19; refine (string_calls _ _ _ _ _ _ HD.out).mono ?_; rintro e w2 ⟨rfl, b2, hc⟩; have c2 : w2.cell? ⟨w.heap.size, 3, none⟩ = some (.int .i64 (k : Int)) := (hc 3).trans ca; clear hc)
    all_goals (go_wp2; go_ret3; exact ⟨by rw [HO.out]; rfl, B1.out.drew.trans b2⟩)
  · have H1 := hid h1
    have B1 := hid (B0.out.trans b1)
    have ca : w1.drew.cell? ⟨w.heap.size, 3, none⟩ = some (.int .i64 (k : Int)) := h1.drew.at
    have HO := hid ho
    clear h1 b1 ho
    go_wp2_with fail
    go_region
    all_goals (go_wp2; go_ret3; exact ⟨by rw [HO.out]; rfl, B1.out.drew⟩)

end Go.Proofs.YtnojlfdojmkonaaGreatDoor
