/- What text.Quote answers, for any string. -/
import Derived.Test.YtimhgbcanmgajaaGreatBld
import Derived.Test.YtimhgbcanmgajaaGreatJoint1
import Derived.Handy
namespace Go.Proofs.YtimhgbcanmgajaaGreat
set_option maxRecDepth 100000
open Go.RowKit

theorem plain_calls (n : Nat) (w : World) :
    Calls Tryz.prog 160 #[.int .u8 (n : Int)] w fun e w' => e = .returned (.bool (plainN n)) ∧ w = w' := by
  by_cases h1 : 32 ≤ n
  · by_cases h2 : n ≤ 126
    · by_cases h3 : n = 34
      · subst h3
        go_enter Tryz.func160, Tryz.ntmps160
        go_wp2
        go_ret
        exact ⟨rfl, rfl⟩
      · have e3 : ((n : Int) != 34) = true := bne_iff_ne.2 (by omega)
        by_cases h4 : n = 92
        · subst h4
          go_enter Tryz.func160, Tryz.ntmps160
          go_wp2
          go_ret
          exact ⟨rfl, rfl⟩
        · have e4 : ((n : Int) != 92) = true := bne_iff_ne.2 (by omega)
          have H := hid (show plainN n = true by simp [plainN]; omega)
          clear h3 h4
          go_enter Tryz.func160, Tryz.ntmps160
          go_wp2
          go_ret
          exact ⟨by rw [H.out]; rfl, rfl⟩
    · have H := hid (show plainN n = false by simp [plainN]; omega)
      go_enter Tryz.func160, Tryz.ntmps160
      go_wp2
      go_ret
      exact ⟨by rw [H.out]; rfl, rfl⟩
  · have H := hid (show plainN n = false by simp [plainN]; omega)
    go_enter Tryz.func160, Tryz.ntmps160
    go_wp2
    go_ret
    exact ⟨by rw [H.out]; rfl, rfl⟩

theorem fits_builder : Fits 118 2 := ⟨by kernel_rfl, by decide⟩

set_option maxHeartbeats 800000 in
theorem quote_calls (s : ByteArray) (hs : s.size ≤ 1000000) (w : World) :
    Calls Tryz.prog 133 #[.string s] w fun e w' => e = .returned (.string ⟨(quoted s.data.toList).toArray⟩) ∧ Below w.heap.size w w' := by
  have hnew := has_new 118 [] w #[.pointer none, .slice none 0 0] rfl
  have hF := fits_builder
  have hB : w.heap.size ≤ (w.alloc (.cells #[.pointer none, .slice none 0 0] 118)).heap.size := by simp
  go_enter Tryz.func133, Tryz.ntmps133
  go_wp2_with fail
  refine (writeByte_calls _ _ _ _ _ 34 _ rfl _ hnew hF (by simp) hB).mono ?_
  rintro e w1 ⟨rfl, h1, b1⟩
  have b0 : Below w.heap.size w w1 := ((Below.refl _ w).alloc (Nat.le_refl _) _).trans b1
  clear hnew b1 hB
  have H1 := hid h1
  clear h1
  go_wp2_with fail
  go_loopw [4, 5] (fun i _ wr => ∃ k : Nat, k ≤ s.size ∧ i = .int .i64 k ∧ Has 118 [] w.heap.size w.heap.size (34 :: qbody (s.data.toList.take k)) wr ∧ Below w.heap.size w wr) (fun i _ _ => s.size - (intOf i).toNat)
  case atStart => exact ⟨0, Nat.zero_le _, rfl, H1.out, b0⟩
  case round =>
    clear H1 b0
    obtain ⟨k, hk, rfl, hh, hb⟩ := hrel
    by_cases hkl : k < s.size
    · have hc := s[k].toNat_lt
      have hlast : qbody (s.data.toList.take (k + 1)) = qbody (s.data.toList.take k) ++ qbyte s[k] := by rw [take_byte s k hkl, qbody_snoc]
      have hlen : (qbody (s.data.toList.take k)).length ≤ 4 * 1000000 := by
        have := qbody_length (s.data.toList.take k)
        rw [List.length_take] at this
        omega
      have HL := hid hlast
      have Hlen := hid hlen
      have Hh := hid hh
      have Hb := hid hb
      clear hlast hlen hh hb
      go_wp2_with fail
      refine (plain_calls s[k].toNat _).mono ?_
      rintro e w2 ⟨rfl, rfl⟩
      by_cases hp : plainN s[k].toNat
      · have Hq : Hid (qbyte s[k] = [s[k]]) := hid (by simp [qbyte, hp])
        go_wp2_with fail
        refine (writeByte_calls _ _ _ _ _ s[k] _ rfl _ Hh.out hF (by simp; have := Hlen.out; omega) Hb.out.size).mono ?_
        rintro e w3 ⟨rfl, h3, b3⟩
        have H3 := hid h3
        have B3 := hid b3
        clear h3 b3
        go_wp2
        go_roundw
        case rel => exact ⟨k + 1, by omega, by go_num, by rw [HL.out, Hq.out]; exact H3.out, Hb.out.trans B3.out⟩
        case measure => simp [intOf]; omega
      · by_cases hq : s[k].toNat = 34 ∨ s[k].toNat = 92
        · have Hq : Hid (qbyte s[k] = [92, s[k]]) := hid (by simp [qbyte, hp, hq])
          have Hor := hid hq
          clear hq
          rcases Hor.out with h34 | h92
          · have e34 : ((s[k].toNat : Int) == 34) = true := beq_iff_eq.2 (by omega)
            clear h34
            go_wp2_with fail
            refine (writeByte_calls _ _ _ _ _ 92 _ rfl _ Hh.out hF (by simp; have := Hlen.out; omega) Hb.out.size).mono ?_
            rintro e w3 ⟨rfl, h3, b3⟩
            have H3 := hid h3
            have B3 := hid (Hb.out.trans b3)
            clear h3 b3
            go_wp2_with fail
            refine (writeByte_calls _ _ _ _ _ s[k] _ rfl _ H3.out hF (by simp; have := Hlen.out; omega) B3.out.size).mono ?_
            rintro e w4 ⟨rfl, h4, b4⟩
            have H4 := hid h4
            have B4 := hid (B3.out.trans b4)
            clear h4 b4
            go_wp2
            go_roundw
            case rel => exact ⟨k + 1, by omega, by go_num, by rw [HL.out, Hq.out]; simpa using H4.out, B4.out⟩
            case measure => simp [intOf]; omega
          · have e34 : ((s[k].toNat : Int) == 34) = false := beq_eq_false_iff_ne.2 (by omega)
            have e92 : ((s[k].toNat : Int) == 92) = true := beq_iff_eq.2 (by omega)
            clear h92
            go_wp2_with fail
            refine (writeByte_calls _ _ _ _ _ 92 _ rfl _ Hh.out hF (by simp; have := Hlen.out; omega) Hb.out.size).mono ?_
            rintro e w3 ⟨rfl, h3, b3⟩
            have H3 := hid h3
            have B3 := hid (Hb.out.trans b3)
            clear h3 b3
            go_wp2_with fail
            refine (writeByte_calls _ _ _ _ _ s[k] _ rfl _ H3.out hF (by simp; have := Hlen.out; omega) B3.out.size).mono ?_
            rintro e w4 ⟨rfl, h4, b4⟩
            have H4 := hid h4
            have B4 := hid (B3.out.trans b4)
            clear h4 b4
            go_wp2
            go_roundw
            case rel => exact ⟨k + 1, by omega, by go_num, by rw [HL.out, Hq.out]; simpa using H4.out, B4.out⟩
            case measure => simp [intOf]; omega
        · have Hq : Hid (qbyte s[k] = [92, 120, hexd (s[k].toNat / 16), hexd (s[k].toNat % 16)]) := hid (by simp only [qbyte]; rw [if_neg hp, if_neg hq])
          have e34 : ((s[k].toNat : Int) == 34) = false := beq_eq_false_iff_ne.2 (by omega)
          have e92 : ((s[k].toNat : Int) == 92) = false := beq_eq_false_iff_ne.2 (by omega)
          clear hq
          go_wp2_with fail
          refine (writeString_calls _ _ _ _ _ ⟨#[92, 120]⟩ (by simp) _ Hh.out hF (by have := Hlen.out; have e2 : (⟨#[92, 120]⟩ : ByteArray).size = 2 := rfl; rw [e2]; simp; omega) Hb.out.size).mono ?_
          rintro e w3 ⟨rfl, h3, b3⟩
          have H3 := hid h3
          have B3 := hid (Hb.out.trans b3)
          clear h3 b3
          go_wp2_with fail
          refine (writeByte_calls _ _ _ _ _ (hexd (s[k].toNat / 16)) _ (by rw [digits_at]) _ H3.out hF (by simp; have := Hlen.out; omega) B3.out.size).mono ?_
          rintro e w4 ⟨rfl, h4, b4⟩
          have H4 := hid h4
          have B4 := hid (B3.out.trans b4)
          clear h4 b4
          go_wp2_with fail
          refine (writeByte_calls _ _ _ _ _ (hexd (s[k].toNat % 16)) _ (by rw [digits_at]) _ H4.out hF (by simp; have := Hlen.out; omega) B4.out.size).mono ?_
          rintro e w5 ⟨rfl, h5, b5⟩
          have H5 := hid h5
          have B5 := hid (B4.out.trans b5)
          clear h5 b5
          go_wp2
          go_roundw
          case rel => exact ⟨k + 1, by omega, by go_num, by rw [HL.out, Hq.out]; simpa using H5.out, B5.out⟩
          case measure => simp [intOf]; omega
    · have Hlen : Hid ((qbody (s.data.toList.take k)).length ≤ 4 * 1000000) := hid (by
        have := qbody_length (s.data.toList.take k)
        rw [List.length_take] at this
        omega)
      have He : Hid (s.data.toList.take k = s.data.toList) := hid (take_end s k (by omega))
      have Hh := hid hh
      have Hb := hid hb
      clear hh hb
      go_wp2_with fail
      refine (writeByte_calls _ _ _ _ _ 34 _ rfl _ Hh.out hF (by simp; have := Hlen.out; omega) Hb.out.size).mono ?_
      rintro e w3 ⟨rfl, h3, b3⟩
      have H3 := hid h3
      have B3 := hid (Hb.out.trans b3)
      clear h3 b3
      go_wp2_with fail
      refine (string_calls _ _ _ _ _ _ H3.out).mono ?_
      rintro e w4 ⟨rfl, b4, -⟩
      have B4 := hid (B3.out.trans b4)
      clear b4
      go_wp2
      go_ret
      refine ⟨?_, B4.out⟩
      rw [He.out]
      simp [quoted]

end Go.Proofs.YtimhgbcanmgajaaGreat
