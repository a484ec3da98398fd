/- Bytes of the call's own that grow. What the document's Quote answers, for any string. -/
import Derived.Test.YtnojlfdojmkonaaGreatDoorTxtPlain
import Derived.Test.YtnojlfdojmkonaaGreatDoorBld
import Derived.Laws.BytesArg
import Derived.Deep.RegionLaw
import Derived.Test.YtnojlfdojmkonaaGreatDoorJoint3
namespace Go.Proofs.YtnojlfdojmkonaaGreatDoor
open Go.RowKit

/-- a slice of bytes of the call's own: it holds l -/
def Owns (B : Nat) (v : Value) (l : List UInt8) (w : World) : Prop := w.ownsRow B 5 1 v l.length (Lib.byteCells l)

/-- append of bytes that were written out, onto a slice of the call's own -/
theorem wp_app {ops : Array Oper} {rest : List Oper} {o : Oper} {a : Act} {Q : Exit → Act → World → Prop} {w : World} (hgd : o.guard = none) (s x : Operand)
    (ho : o.op = .call { callee := .builtin .append, args := #[s, x], argTypes := #[48, 48] })
    (B : Nat) (l news : List UInt8) (cs : Array Value) (n : Nat) (hn : news.length = n) (hcs : cs = (Lib.byteCells news).toArray) (v : Value) (hs : a.eval s = v) (hown : Owns B v l w)
    (hx : a.eval x = .slice (some ⟨w.heap.size, 0, none⟩) n n) (hlen : l.length + n ≤ 140737488355328) (hB : B ≤ w.heap.size) (h0 : 0 < n)
    (h : ∀ g cap w', Owns B (.slice (some ⟨g, 0, none⟩) (l.length + n) cap) (l ++ news) w' → Below B w w' → wpList Tryz.prog ops Q rest (a.put o.dst (.slice (some ⟨g, 0, none⟩) (l.length + n) cap)) w') :
    wpList Tryz.prog ops Q (o :: rest) a (w.alloc (.cells cs 5)) := by
  obtain ⟨i0, hi, hz0, hz1, hz2⟩ := info8
  refine wpList_append_own _ hgd s x 48 ho B 5 i0 (.int .u8 0) 1 1 under_bytes hi hz0 hz1 hz2 rfl (by decide) v _ _ hs (World.ownsRow.alloc hown _) ⟨w.heap.size, 0, none⟩ n n (Lib.byteCells news) hx (by rw [Lib.byteCells_length]; omega) ?_ ?_ (by unfold maxLen; omega) (by omega) (by simp; omega) ?_
  · intro j u hj
    have e : (⟨w.heap.size, 0, none⟩ : Addr).add j = ⟨w.heap.size, j, none⟩ := by unfold Addr.add; split <;> simp_all
    rw [e, World.cell?_alloc_new, hcs]
    simpa using hj
  · intro u hu
    simp [Lib.byteCells] at hu
    obtain ⟨b, _, rfl⟩ := hu
    rfl
  · intro v' w2 hown' hgrow _
    obtain ⟨g, cap, rfl⟩ : ∃ g cap, v' = .slice (some ⟨g, 0, none⟩) (l.length + n) cap := by
      rcases hown'.2 with ⟨_, h0⟩ | ⟨g, cap, cur, hv, _⟩
      · omega
      · exact ⟨g, cap, hv⟩
    refine h g cap w2 ?_ ?_
    · unfold Owns
      rw [Lib.byteCells_append, List.length_append, hn]
      exact hown'
    · exact ((Below.refl B w).alloc hB _).grown hgrow (by simp; omega) (fun k hk => (hown.lt k hk).1)

/-- the same, as one step of a region that draws its order -/
theorem step_app {ops : Array Oper} {o : Oper} {a : Act} {w : World} {K : Act → World → Prop} {Q : Exit → Act → World → Prop} {E : Prop} (hgd : o.guard = none) (s x : Operand)
    (ho : o.op = .call { callee := .builtin .append, args := #[s, x], argTypes := #[48, 48] })
    (B : Nat) (l news : List UInt8) (cs : Array Value) (n : Nat) (hn : news.length = n) (hcs : cs = (Lib.byteCells news).toArray) (v : Value) (hs : a.eval s = v) (hown : Owns B v l w)
    (hx : a.eval x = .slice (some ⟨w.heap.size, 0, none⟩) n n) (hlen : l.length + n ≤ 140737488355328) (hB : B ≤ w.heap.size) (h0 : 0 < n)
    (h : ∀ g cap w', Owns B (.slice (some ⟨g, 0, none⟩) (l.length + n) cap) (l ++ news) w' → Below B w w' → K (a.put o.dst (.slice (some ⟨g, 0, none⟩) (l.length + n) cap)) w') :
    if Region.wanted o (yielded ops a.tmps) = true then Oper.wp Tryz.prog o a (w.alloc (.cells cs 5)).drew K Q else E := by
  have hw : Region.wanted o (yielded ops a.tmps) = true := by simp [Region.wanted, hgd]
  rw [if_pos hw]
  obtain ⟨i0, hi, hz0, hz1, hz2⟩ := info8
  have hown1 : (w.alloc (.cells cs 5)).drew.ownsRow B 5 1 v l.length (Lib.byteCells l) := World.ownsRow.alloc hown _
  refine wp_append_own _ s x 48 ho B 5 i0 (.int .u8 0) 1 1 under_bytes hi hz0 hz1 hz2 rfl (by decide) v _ _ hs hown1 ⟨w.heap.size, 0, none⟩ n n (Lib.byteCells news) hx (by rw [Lib.byteCells_length]; omega) ?_ ?_ (by unfold maxLen; omega) (by omega) (by show B ≤ (w.alloc (.cells cs 5)).heap.size; simp; omega) ?_
  · intro j u hj
    have e : (⟨w.heap.size, 0, none⟩ : Addr).add j = ⟨w.heap.size, j, none⟩ := by unfold Addr.add; split <;> simp_all
    show (w.alloc (.cells cs 5)).cell? _ = _
    rw [e, World.cell?_alloc_new, hcs]
    simpa using hj
  · intro u hu
    simp [Lib.byteCells] at hu
    obtain ⟨b, _, rfl⟩ := hu
    rfl
  · intro v' w2 hown' hgrow _
    obtain ⟨g, cap, rfl⟩ : ∃ g cap, v' = .slice (some ⟨g, 0, none⟩) (l.length + n) cap := by
      rcases hown'.2 with ⟨_, h0⟩ | ⟨g, cap, cur, hv, _⟩
      · omega
      · exact ⟨g, cap, hv⟩
    refine h g cap w2 ?_ ?_
    · unfold Owns
      rw [Lib.byteCells_append, List.length_append, hn]
      exact hown'
    · exact (((Below.refl B w).alloc hB _).drew).grown hgrow (by show B ≤ (w.alloc (.cells cs 5)).heap.size; simp; omega) (fun k hk => (hown.lt k hk).1)

theorem owns_string {B g cap n : Nat} {l : List UInt8} {w : World} (h : Owns B (.slice (some ⟨g, 0, none⟩) n cap) l w) (hn : n = l.length) :
    (convert 48 9 (.slice (some ⟨g, 0, none⟩) n cap)).run Tryz.prog w = .ok (.string ⟨l.toArray⟩) w := by
  subst hn
  refine run_convert_bytes_back w 48 9 5 ⟨g, 0, none⟩ cap l (by kernel_rfl) (by kernel_rfl) (by kernel_rfl) (fun j hj => ?_)
  exact World.ownsRow.cells h (g := g) rfl j (.int .u8 l[j].toNat) (by simp [Lib.byteCells, hj])

theorem owns_first (w : World) (c : UInt8) (n : Int) (hn : n = (c.toNat : Int)) : Owns w.heap.size (.slice (some ⟨w.heap.size, 0, none⟩) 1 1) [c] (w.alloc (.cells #[.int .u8 n] 5)) := by
  subst hn
  exact ⟨rfl, .inr ⟨w.heap.size, 1, #[.int .u8 c.toNat], rfl, Nat.le_refl _, heap_alloc_new w _, Nat.le_refl _, by unfold maxLen; decide, rfl, rfl⟩⟩

end Go.Proofs.YtnojlfdojmkonaaGreatDoor

namespace Go.Proofs.YtnojlfdojmkonaaGreatDoor
open Go.RowKit

theorem refplain_calls (n : Nat) (w : World) :
    Calls Tryz.prog 56 #[.int .u8 (n : Int)] w fun e w' => e = .returned (.bool (plainN n)) ∧ w = w' := by
  by_cases h1 : 32 ≤ n
  · by_cases h2 : n ≤ 126
    · by_cases h3 : n = 34
      · subst h3
        go_enter Tryz.func56, Tryz.ntmps56
        go_wp2
        go_ret
        exact ⟨rfl, rfl⟩
      · have e3 : ((n : Int) != 34) = true := bne_iff_ne.2 (by omega)
        by_cases h4 : n = 92
        · subst h4
          go_enter Tryz.func56, Tryz.ntmps56
          go_wp2
          go_ret
          exact ⟨rfl, rfl⟩
        · have e4 : ((n : Int) != 92) = true := bne_iff_ne.2 (by omega)
          have H := hid (show plainN n = true by simp [plainN]; omega)
          clear h3 h4
          go_enter Tryz.func56, Tryz.ntmps56
          go_wp2
          go_ret
          exact ⟨by rw [H.out]; rfl, rfl⟩
    · have H := hid (show plainN n = false by simp [plainN]; omega)
      go_enter Tryz.func56, Tryz.ntmps56
      go_wp2
      go_ret
      exact ⟨by rw [H.out]; rfl, rfl⟩
  · have H := hid (show plainN n = false by simp [plainN]; omega)
    go_enter Tryz.func56, Tryz.ntmps56
    go_wp2
    go_ret
    exact ⟨by rw [H.out]; rfl, rfl⟩

set_option maxHeartbeats 1600000 in
theorem refquote_calls (s : ByteArray) (hs : s.size ≤ 1000000) (w : World) :
    Calls Tryz.prog 35 #[.string s] w fun e w' => e = .returned (.string ⟨(quoted s.data.toList).toArray⟩) ∧ Below w.heap.size w w' := by
  have h0 := owns_first w 34 34 rfl
  have b0 : Below w.heap.size w (w.alloc (.cells #[.int .u8 34] 5)) := (Below.refl _ w).alloc (Nat.le_refl _) _
  have H0 := hid h0
  have B0 := hid b0
  clear h0 b0
  go_enter Tryz.func35, Tryz.ntmps35
  go_wp2_with fail
  go_loopw [4, 5, 6] (fun v i _ wr => ∃ (k g cap n : Nat), k ≤ s.size ∧ i = .int .i64 k ∧ v = .slice (some ⟨g, 0, none⟩) n cap ∧ n = (34 :: qbody (s.data.toList.take k)).length ∧ Owns w.heap.size (.slice (some ⟨g, 0, none⟩) n cap) (34 :: qbody (s.data.toList.take k)) wr ∧ Below w.heap.size w wr) (fun _ i _ _ => s.size - (intOf i).toNat)
  case atStart => exact ⟨0, _, _, _, Nat.zero_le _, rfl, rfl, rfl, H0.out, B0.out⟩
  case round =>
    clear H0 B0
    obtain ⟨k, g, cap, n, hk, rfl, rfl, hn, hown, hb⟩ := hrel
    have Hn := hid hn
    have Hown := hid hown
    have Hb := hid hb
    have Hlen : Hid ((qbody (s.data.toList.take k)).length ≤ 4 * 1000000) := hid (by
      have := qbody_length (s.data.toList.take k)
      rw [List.length_take] at this
      omega)
    clear hown hb hn
    by_cases hkl : k < s.size
    · have hc := s[k].toNat_lt
      have HL : Hid (qbody (s.data.toList.take (k + 1)) = qbody (s.data.toList.take k) ++ qbyte s[k]) := hid (by rw [take_byte s k hkl, qbody_snoc])
      go_wp2_with fail
      refine (refplain_calls s[k].toNat _).mono ?_
      rintro e w2 ⟨rfl, rfl⟩
      by_cases hp : plainN s[k].toNat
      · have Hq : Hid (qbyte s[k] = [s[k]]) := hid (by simp [qbyte, hp])
        go_wp2_with (at_builtin; refine wp_app rfl _ _ rfl w.heap.size _ [s[k]] _ 1 rfl rfl _ (by rfl) Hown.out (by rfl) (by have := Hlen.out; simp; omega) Hb.out.size (by decide) ?_)
        rintro g2 cap2 w3 h3 b3
        have H3 := hid h3
        have B3 := hid (Hb.out.trans b3)
        clear h3 b3
        go_wp2
        go_roundw
        case rel => exact ⟨k + 1, g2, cap2, _, by omega, by go_num, rfl, by rw [HL.out, Hq.out]; simp, by rw [HL.out, Hq.out]; exact H3.out, B3.out⟩
        case measure => simp [intOf]; omega
      · by_cases hq : s[k].toNat = 34 ∨ s[k].toNat = 92
        · have Hq : Hid (qbyte s[k] = [92, s[k]]) := hid (by simp [qbyte, hp, hq])
          have Hor := hid hq
          clear hq
          rcases Hor.out with h34 | h92
          · have e34 : ((s[k].toNat : Int) == 34) = true := beq_iff_eq.2 (by omega)
            clear h34
            go_wp2_with (at_builtin; refine wp_app rfl _ _ rfl w.heap.size _ [92] _ 1 rfl rfl _ (by rfl) Hown.out (by rfl) (by have := Hlen.out; simp; omega) Hb.out.size (by decide) ?_)
            rintro g2 cap2 w3 h3 b3
            have H3 := hid h3
            have B3 := hid (Hb.out.trans b3)
            clear h3 b3
            go_wp2_with (at_builtin; refine wp_app rfl _ _ rfl w.heap.size _ [s[k]] _ 1 rfl rfl _ (by rfl) H3.out (by rfl) (by have := Hlen.out; simp; omega) B3.out.size (by decide) ?_)
            rintro g3 cap3 w4 h4 b4
            have H4 := hid h4
            have B4 := hid (B3.out.trans b4)
            clear h4 b4
            go_wp2
            go_roundw
            case rel => exact ⟨k + 1, g3, cap3, _, by omega, by go_num, rfl, by rw [HL.out, Hq.out]; simp, by rw [HL.out, Hq.out]; simpa using H4.out, B4.out⟩
            case measure => simp [intOf]; omega
          · have e34 : ((s[k].toNat : Int) == 34) = false := beq_eq_false_iff_ne.2 (by omega)
            have e92 : ((s[k].toNat : Int) == 92) = true := beq_iff_eq.2 (by omega)
            clear h92
            go_wp2_with (at_builtin; refine wp_app rfl _ _ rfl w.heap.size _ [92] _ 1 rfl rfl _ (by rfl) Hown.out (by rfl) (by have := Hlen.out; simp; omega) Hb.out.size (by decide) ?_)
            rintro g2 cap2 w3 h3 b3
            have H3 := hid h3
            have B3 := hid (Hb.out.trans b3)
            clear h3 b3
            go_wp2_with (at_builtin; refine wp_app rfl _ _ rfl w.heap.size _ [s[k]] _ 1 rfl rfl _ (by rfl) H3.out (by rfl) (by have := Hlen.out; simp; omega) B3.out.size (by decide) ?_)
            rintro g3 cap3 w4 h4 b4
            have H4 := hid h4
            have B4 := hid (B3.out.trans b4)
            clear h4 b4
            go_wp2
            go_roundw
            case rel => exact ⟨k + 1, g3, cap3, _, by omega, by go_num, rfl, by rw [HL.out, Hq.out]; simp, by rw [HL.out, Hq.out]; simpa using H4.out, B4.out⟩
            case measure => simp [intOf]; omega
        · have Hq : Hid (qbyte s[k] = [92, 120, hexd (s[k].toNat / 16), hexd (s[k].toNat % 16)]) := hid (by simp only [qbyte]; rw [if_neg hp, if_neg hq])
          have e34 : ((s[k].toNat : Int) == 34) = false := beq_eq_false_iff_ne.2 (by omega)
          have e92 : ((s[k].toNat : Int) == 92) = false := beq_eq_false_iff_ne.2 (by omega)
          clear hq
          go_wp2_with (at_builtin; refine wp_app rfl _ _ rfl w.heap.size _ [92] _ 1 rfl rfl _ (by rfl) Hown.out (by rfl) (by have := Hlen.out; simp; omega) Hb.out.size (by decide) ?_)
          rintro g2 cap2 w3 h3 b3
          have H3 := hid h3
          have B3 := hid (Hb.out.trans b3)
          clear h3 b3
          obtain ⟨q, hq⟩ : ∃ q : Nat, q = s[k].toNat / 16 := ⟨_, rfl⟩
          obtain ⟨r, hr⟩ : ∃ r : Nat, r = s[k].toNat % 16 := ⟨_, rfl⟩
          rw [← hq, ← hr] at Hq
          have hw1 : IntKind.u8.wrap ((s[k].toNat : Int) / 16) = (q : Int) := by simp [IntKind.wrap, IntKind.signed, IntKind.bits]; omega
          have hw2 : ((s[k].toNat : Int)).tmod 16 = (r : Int) := by rw [Int.tmod_eq_emod_of_nonneg (by omega)]; omega
          have hq16 : (q : Int) < 16 := by omega
          have hr16 : (r : Int) < 16 := by omega
          clear hq hr
          go_wp2_with fail
          go_region_law (refine step_app rfl _ _ rfl w.heap.size _ [120, hexd q, hexd r] _ 3 rfl (by simp [Lib.byteCells, digits_at]) _ (by rfl) H3.out (by rfl) (by have := Hlen.out; simp; omega) B3.out.size (by decide) ?_; intro g3 cap3 w4 h4 b4)
          all_goals
            (have H4 := hid h4
             have B4 := hid (B3.out.trans b4)
             clear h4 b4
             go_wp2
             go_roundw
             case rel => exact ⟨k + 1, g3, cap3, _, by omega, by go_num, rfl, by rw [HL.out, Hq.out]; simp, by rw [HL.out, Hq.out]; simpa using H4.out, B4.out⟩
             case measure => simp [intOf]; omega)
    · have He : Hid (s.data.toList.take k = s.data.toList) := hid (take_end s k (by omega))
      go_wp2_with (at_builtin; refine wp_app rfl _ _ rfl w.heap.size _ [34] _ 1 rfl rfl _ (by rfl) Hown.out (by rfl) (by have := Hlen.out; simp; omega) Hb.out.size (by decide) ?_)
      rintro g2 cap2 w3 h3 b3
      have hcv := owns_string h3 (by simp)
      have B3 := hid (Hb.out.trans b3)
      clear h3 b3
      go_wp2
      go_ret
      refine ⟨?_, B3.out⟩
      rw [He.out]
      simp [quoted]

end Go.Proofs.YtnojlfdojmkonaaGreatDoor
