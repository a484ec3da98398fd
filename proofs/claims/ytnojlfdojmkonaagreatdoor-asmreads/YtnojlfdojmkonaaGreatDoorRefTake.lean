/- What the document's Take answers, for any text. -/
import Derived.Test.YtnojlfdojmkonaaGreatDoorTxtTaken
import Derived.Test.YtnojlfdojmkonaaGreatDoorJoint15
namespace Go.Proofs.YtnojlfdojmkonaaGreatDoor
open Go.RowKit

theorem refworth_calls (n : Nat) (w : World) :
    Calls Tryz.prog 63 #[.int .u8 (n : Int)] w fun e w' => e = .returned (.int .u8 (worthN n : Int)) ∧ w = w' := by
  rcases (show n < 48 ∨ (48 ≤ n ∧ n ≤ 57) ∨ (57 < n ∧ n < 65) ∨ (65 ≤ n ∧ n ≤ 70) ∨ (70 < n ∧ n < 97) ∨ (97 ≤ n ∧ n ≤ 102) ∨ 102 < n from by omega) with h | ⟨h1, h2⟩ | ⟨h1, h2⟩ | ⟨h1, h2⟩ | ⟨h1, h2⟩ | ⟨h1, h2⟩ | h
  · have H := hid (show worthN n = 16 by unfold worthN; rw [if_neg (by omega), if_neg (by omega), if_neg (by omega)])
    go_enter Tryz.func63, Tryz.ntmps63
    go_wp2
    go_ret
    exact ⟨by rw [H.out]; rfl, rfl⟩
  · have H := hid (show worthN n = n - 48 by unfold worthN; rw [if_pos (by omega)])
    go_enter Tryz.func63, Tryz.ntmps63
    go_wp2
    go_ret
    exact ⟨by rw [H.out]; simp; omega, rfl⟩
  · have H := hid (show worthN n = 16 by unfold worthN; rw [if_neg (by omega), if_neg (by omega), if_neg (by omega)])
    go_enter Tryz.func63, Tryz.ntmps63
    go_wp2
    go_ret
    exact ⟨by rw [H.out]; rfl, rfl⟩
  · have H := hid (show worthN n = n - 55 by unfold worthN; rw [if_neg (by omega), if_neg (by omega), if_pos (by omega)])
    go_enter Tryz.func63, Tryz.ntmps63
    go_wp2
    go_ret
    exact ⟨by rw [H.out]; simp; omega, rfl⟩
  · have H := hid (show worthN n = 16 by unfold worthN; rw [if_neg (by omega), if_neg (by omega), if_neg (by omega)])
    go_enter Tryz.func63, Tryz.ntmps63
    go_wp2
    go_ret
    exact ⟨by rw [H.out]; rfl, rfl⟩
  · have H := hid (show worthN n = n - 87 by unfold worthN; rw [if_neg (by omega), if_pos (by omega)])
    go_enter Tryz.func63, Tryz.ntmps63
    go_wp2
    go_ret
    exact ⟨by rw [H.out]; simp; omega, rfl⟩
  · have H := hid (show worthN n = 16 by unfold worthN; rw [if_neg (by omega), if_neg (by omega), if_neg (by omega)])
    go_enter Tryz.func63, Tryz.ntmps63
    go_wp2
    go_ret
    exact ⟨by rw [H.out]; rfl, rfl⟩

theorem owns_conv {B : Nat} {v : Value} {l : List UInt8} {w : World} (h : Owns B v l w) : (convert 48 9 v).run Tryz.prog w = .ok (.string ⟨l.toArray⟩) w := by
  rcases h.2 with ⟨rfl, hl⟩ | ⟨g, cap, cur, rfl, _⟩
  · have : l = [] := List.length_eq_zero_iff.1 hl
    subst this
    rw [run_convert_bytes_string w 48 9 5 none 0 0 (by kernel_rfl) (by kernel_rfl) (by kernel_rfl)]
    rfl
  · exact owns_string h rfl

/-- what the round knows -/
structure Rnd (s : ByteArray) (w : World) (k f : Nat) (acc : List UInt8) (v : Value) (wr : World) : Prop where
  hk : k ≤ s.size
  len : acc.length ≤ k
  go : takeGo f (s.data.toList.drop k) k acc = takeOut s.data.toList
  fuel : (s.data.toList.drop k).length < f
  own : Owns w.heap.size v acc wr
  bel : Below w.heap.size w wr

theorem rnd_next {s : ByteArray} {w wr w2 : World} {k f n : Nat} {acc : List UInt8} {v v2 : Value} (h : Rnd s w k f acc v wr) (c : UInt8) (ho : oneOf (s.data.toList.drop k) = (some c, n)) (hown : Owns w.heap.size v2 (acc ++ [c]) w2) (hb : Below w.heap.size wr w2) :
    ∃ f', Rnd s w (k + n) f' (acc ++ [c]) v2 w2 ∧ 1 ≤ n := by
  obtain ⟨f', hg', hf', hn1, hn2⟩ := go_next h.go h.fuel ho
  rw [List.length_drop, list_size] at hn2
  have h1 := h.hk
  have h2 := h.len
  exact ⟨f', ⟨by omega, by simp; omega, by rw [← List.drop_drop]; exact hg', by rw [← List.drop_drop]; exact hf', hown, h.bel.trans hb⟩, hn1⟩

theorem rnd_fail {s : ByteArray} {w wr : World} {k f n : Nat} {acc : List UInt8} {v : Value} (h : Rnd s w k f acc v wr) (hkl : k < s.size) (h34 : s[k].toNat ≠ 34) (ho : oneOf (s.data.toList.drop k) = (none, n)) :
    takeOut s.data.toList = ([], k + n, 11) :=
  go_fail h.go h.fuel (by rw [drop_byte s k hkl]; exact h34) ho

theorem one_plain {s : ByteArray} {k : Nat} (hkl : k < s.size) (hp : plainN s[k].toNat = true) : oneOf (s.data.toList.drop k) = (some s[k], 1) := by
  rw [drop_byte s k hkl]; simp [oneOf, hp]
theorem one_not {s : ByteArray} {k : Nat} (hkl : k < s.size) (hp : plainN s[k].toNat = false) (h92 : s[k].toNat ≠ 92) : oneOf (s.data.toList.drop k) = (none, 0) := by
  rw [drop_byte s k hkl]; simp [oneOf, hp, h92]
theorem one_m0 {s : ByteArray} {k : Nat} (hkl : k < s.size) (h92 : s[k].toNat = 92) (h1 : s.size ≤ k + 1) : oneOf (s.data.toList.drop k) = (none, 1) := by
  rw [drop_byte s k hkl, oneOf_mark h92, drop_end s _ h1]; rfl
theorem one_m1 {s : ByteArray} {k : Nat} (hkl : k < s.size) (h92 : s[k].toNat = 92) (h1 : k + 1 < s.size) (hd : s[k + 1].toNat = 34 ∨ s[k + 1].toNat = 92) : oneOf (s.data.toList.drop k) = (some s[k + 1], 2) := by
  rw [drop_byte s k hkl, oneOf_mark h92, drop_byte s _ h1]; simp [markOf, hd]
theorem one_m2 {s : ByteArray} {k : Nat} (hkl : k < s.size) (h92 : s[k].toNat = 92) (h1 : k + 1 < s.size) (hd : ¬ (s[k + 1].toNat = 34 ∨ s[k + 1].toNat = 92)) (hx : s[k + 1].toNat ≠ 120) : oneOf (s.data.toList.drop k) = (none, 1) := by
  rw [drop_byte s k hkl, oneOf_mark h92, drop_byte s _ h1]; simp only [markOf]; rw [if_neg hd, if_pos hx]
theorem one_m3 {s : ByteArray} {k : Nat} (hkl : k < s.size) (h92 : s[k].toNat = 92) (h1 : k + 1 < s.size) (hx : s[k + 1].toNat = 120) : oneOf (s.data.toList.drop k) = ((numOf (s.data.toList.drop (k + 2))).1, (numOf (s.data.toList.drop (k + 2))).2 + 2) := by
  rw [drop_byte s k hkl, oneOf_mark h92, drop_byte s _ h1]; simp only [markOf, hx]; rw [if_neg (by decide), if_neg (by decide)]
theorem num_0 {s : ByteArray} {k : Nat} (h : s.size ≤ k) : numOf (s.data.toList.drop k) = (none, 0) := by rw [drop_end s _ h]; rfl
theorem num_1 {s : ByteArray} {k : Nat} (h : k < s.size) (hw : worthN s[k].toNat = 16) : numOf (s.data.toList.drop k) = (none, 0) := by
  rw [drop_byte s k h]; simp [numOf, hw]
theorem num_2 {s : ByteArray} {k : Nat} (h : k < s.size) (hw : worthN s[k].toNat ≠ 16) (h1 : s.size ≤ k + 1) : numOf (s.data.toList.drop k) = (none, 1) := by
  rw [drop_byte s k h, drop_end s _ h1]; simp [numOf, hw]
theorem num_3 {s : ByteArray} {k : Nat} (h : k < s.size) (hw : worthN s[k].toNat ≠ 16) (h1 : k + 1 < s.size) (hw1 : worthN s[k + 1].toNat = 16) : numOf (s.data.toList.drop k) = (none, 1) := by
  rw [drop_byte s k h, drop_byte s _ h1]; simp [numOf, hw, hw1]
theorem num_4 {s : ByteArray} {k : Nat} (h : k < s.size) (hw : worthN s[k].toNat ≠ 16) (h1 : k + 1 < s.size) (hw1 : worthN s[k + 1].toNat ≠ 16) : numOf (s.data.toList.drop k) = (some (UInt8.ofNat (16 * worthN s[k].toNat + worthN s[k + 1].toNat)), 2) := by
  rw [drop_byte s k h, drop_byte s _ h1]; simp [numOf, hw, hw1]

set_option maxRecDepth 100000 in
set_option maxHeartbeats 4000000 in
theorem reftake_calls (s : ByteArray) (hs : s.size ≤ 1000000) (w : World) :
    Calls Tryz.prog 40 #[.string s] w fun e w' =>
      e = .returned (.tuple #[.string ⟨(takeOut s.data.toList).1.toArray⟩, .int .i64 ((takeOut s.data.toList).2.1 : Int), .int .i64 (takeOut s.data.toList).2.2]) ∧ Below w.heap.size w w' := by
  by_cases hpos : 0 < s.size
  · have e0 : ((s.size : Int) == 0) = false := beq_eq_false_iff_ne.2 (by omega)
    by_cases h34 : s[0].toNat = 34
    · have e34 : ((s[0].toNat : Int) != 34) = false := by simp [h34]
      have HR : Hid (Rnd s w 1 ((s.data.toList.drop 1).length + 1) [] (.slice none 0 0) w) := by
        refine hid ⟨hpos, by simp, ?_, by omega, World.ownsRow_nil _ _ _ _, Below.refl _ _⟩
        have hd := drop_byte s 0 hpos
        rw [List.drop_zero] at hd
        conv => rhs; rw [hd]
        simp only [takeOut]
        rw [if_pos h34]
      clear h34
      go_enter Tryz.func40, Tryz.ntmps40
      go_wp2_with fail
      go_loopw [5, 6, 7] (fun v i _ wr => ∃ (k f : Nat) (acc : List UInt8), i = .int .i64 (k : Int) ∧ Rnd s w k f acc v wr) (fun _ i _ _ => s.size - (intOf i).toNat)
      case atStart => exact ⟨1, _, [], rfl, HR.out⟩
      case round =>
        clear HR
        obtain ⟨k, f, acc, rfl, hR⟩ := hrel
        have hk := hR.hk
        have hlen := hR.len
        have HR := hid hR
        clear hR
        by_cases hkl : k < s.size
        · by_cases hc34 : s[k].toNat = 34
          · have HO := hid (go_close HR.out.go HR.out.fuel (by rw [drop_byte s k hkl]; exact hc34))
            have e1 : ((s[k].toNat : Int) == 34) = true := beq_iff_eq.2 (by omega)
            have hcv := owns_conv HR.out.own
            clear hc34
            go_wp2
            go_ret3
            exact ⟨by rw [HO.out]; rfl, HR.out.bel⟩
          · have e1 : ((s[k].toNat : Int) == 34) = false := beq_eq_false_iff_ne.2 (by omega)
            have N34 := hid hc34
            clear hc34
            go_wp2_with fail
            refine (refplain_calls _ _).mono ?_
            rintro e w1 ⟨rfl, rfl⟩
            cases hp : plainN s[k].toNat
            · by_cases h92 : s[k].toNat = 92
              · have e2 : ((s[k].toNat : Int) != 92) = false := by simp [h92]
                have H92 := hid h92
                clear h92
                by_cases hk1 : k + 1 < s.size
                · by_cases hd : s[k + 1].toNat = 34 ∨ s[k + 1].toNat = 92
                  · have HO := hid (one_m1 hkl H92.out hk1 hd)
                    have Hd := hid hd
                    clear hd
                    rcases Hd.out with d34 | d92
                    · have e3 : ((s[k + 1].toNat : Int) == 34) = true := beq_iff_eq.2 (by omega)
                      clear d34
                      go_wp2_with (at_builtin; refine wp_app rfl _ _ rfl w.heap.size _ [s[k + 1]] _ 1 rfl rfl _ (by rfl) HR.out.own (by rfl) (by omega) HR.out.bel.size (by decide) ?_)
                      rintro g2 cap2 w3 h3 b3
                      obtain ⟨f', hn, _⟩ := rnd_next HR.out _ HO.out h3 b3
                      have HN := hid hn
                      clear h3 b3 hn
                      go_wp2
                      go_roundw
                      case rel => exact ⟨k + 2, f', _, by go_num, HN.out⟩
                      case measure => simp [intOf]; omega
                    · have e3 : ((s[k + 1].toNat : Int) == 34) = false := beq_eq_false_iff_ne.2 (by omega)
                      have e4 : ((s[k + 1].toNat : Int) == 92) = true := beq_iff_eq.2 (by omega)
                      clear d92
                      go_wp2_with (at_builtin; refine wp_app rfl _ _ rfl w.heap.size _ [s[k + 1]] _ 1 rfl rfl _ (by rfl) HR.out.own (by rfl) (by omega) HR.out.bel.size (by decide) ?_)
                      rintro g2 cap2 w3 h3 b3
                      obtain ⟨f', hn, _⟩ := rnd_next HR.out _ HO.out h3 b3
                      have HN := hid hn
                      clear h3 b3 hn
                      go_wp2
                      go_roundw
                      case rel => exact ⟨k + 2, f', _, by go_num, HN.out⟩
                      case measure => simp [intOf]; omega
                  · have e3 : ((s[k + 1].toNat : Int) == 34) = false := beq_eq_false_iff_ne.2 (by omega)
                    have e4 : ((s[k + 1].toNat : Int) == 92) = false := beq_eq_false_iff_ne.2 (by omega)
                    by_cases hx : s[k + 1].toNat = 120
                    · have e5 : ((s[k + 1].toNat : Int) != 120) = false := by simp [hx]
                      have HM := hid (one_m3 hkl H92.out hk1 hx)
                      clear hd hx
                      by_cases hk2 : k + 2 < s.size
                      · cases hw2 : decide (worthN s[k + 2].toNat = 16)
                        · have hw2' : worthN s[k + 2].toNat ≠ 16 := of_decide_eq_false hw2
                          have e6 : ((worthN s[k + 2].toNat : Int) == 16) = false := beq_eq_false_iff_ne.2 (by omega)
                          by_cases hk3 : k + 3 < s.size
                          · cases hw3 : decide (worthN s[k + 3].toNat = 16)
                            · have hw3' : worthN s[k + 3].toNat ≠ 16 := of_decide_eq_false hw3
                              have e7 : ((worthN s[k + 3].toNat : Int) == 16) = false := beq_eq_false_iff_ne.2 (by omega)
                              have HO : Hid (oneOf (s.data.toList.drop k) = (some (UInt8.ofNat (16 * worthN s[k + 2].toNat + worthN s[k + 3].toNat)), 4)) := hid (by rw [HM.out, num_4 hk2 hw2' hk3 hw3'])
                              have l2 := worthN_le s[k + 2].toNat
                              have l3 := worthN_le s[k + 3].toNat
                              clear hw2 hw3
                              go_wp2_with fail
                              refine (refworth_calls _ _).mono ?_
                              rintro e w2 ⟨rfl, rfl⟩
                              go_wp2_with fail
                              refine (refworth_calls _ _).mono ?_
                              rintro e w3 ⟨rfl, rfl⟩
                              have m1 : IntKind.u8.wrap ((worthN s[k + 2].toNat : Int) * 16) = (worthN s[k + 2].toNat : Int) * 16 := by simp [IntKind.wrap, IntKind.signed, IntKind.bits]; omega
                              have m2 : IntKind.u8.wrap ((worthN s[k + 2].toNat : Int) * 16 + (worthN s[k + 3].toNat : Int)) = (worthN s[k + 2].toNat : Int) * 16 + (worthN s[k + 3].toNat : Int) := by simp [IntKind.wrap, IntKind.signed, IntKind.bits]; omega
                              have m3 : IntKind.i64.wrap ((k : Int) + 1 + 1 + 1) = (k : Int) + 1 + 1 + 1 := by simp [IntKind.wrap, IntKind.signed, IntKind.bits]; omega
                              have m4 : (0 : Int) ≤ (k : Int) + 1 + 1 + 1 := by omega
                              have Hcs : Hid (#[Value.int .u8 (IntKind.u8.wrap (IntKind.u8.wrap ((worthN s[k + 2].toNat : Int) * 16) + (worthN s[k + 3].toNat : Int)))] = (Lib.byteCells [UInt8.ofNat (16 * worthN s[k + 2].toNat + worthN s[k + 3].toNat)]).toArray) := hid (by simp only [Lib.byteCells, List.map_cons, List.map_nil]; rw [m1, m2, ofNat_toNat (by omega), show (((16 * worthN s[k + 2].toNat + worthN s[k + 3].toNat : Nat)) : Int) = (worthN s[k + 2].toNat : Int) * 16 + (worthN s[k + 3].toNat : Int) from by omega])
                              go_wp2_with fail
                              go_region_law (first
                                | (go_simp; go_at_call 63; refine (refworth_calls _ _).mono ?_; rintro e w2 ⟨rfl, rfl⟩)
                                | (refine step_app rfl _ _ rfl w.heap.size _ [UInt8.ofNat (16 * worthN s[k + 2].toNat + worthN s[k + 3].toNat)] _ 1 rfl Hcs.out _ (by rfl) HR.out.own (by rfl) (by omega) HR.out.bel.size (by decide) ?_; intro g2 cap2 w3 h3 b3))
                              all_goals
                                (obtain ⟨f', hn, _⟩ := rnd_next HR.out _ HO.out h3 b3
                                 have HN := hid hn
                                 clear h3 b3 hn
                                 go_wp2
                                 go_roundw
                                 case rel => exact ⟨k + 4, f', _, by go_num, HN.out⟩
                                 case measure => simp [intOf]; omega)
                            · have HF := hid (rnd_fail HR.out hkl N34.out (show oneOf (s.data.toList.drop k) = (none, 3) by rw [HM.out, num_3 hk2 hw2' hk3 (of_decide_eq_true hw3)]))
                              have e7 : ((worthN s[k + 3].toNat : Int) == 16) = true := beq_iff_eq.2 (by have := of_decide_eq_true hw3; omega)
                              clear hw2 hw3 hw2'
                              go_wp2_with fail
                              refine (refworth_calls _ _).mono ?_
                              rintro e w2 ⟨rfl, rfl⟩
                              go_wp2_with fail
                              refine (refworth_calls _ _).mono ?_
                              rintro e w3 ⟨rfl, rfl⟩
                              go_wp2
                              go_ret3
                              exact ⟨by rw [HF.out]; rfl, HR.out.bel⟩
                          · have HF := hid (rnd_fail HR.out hkl N34.out (show oneOf (s.data.toList.drop k) = (none, 3) by rw [HM.out, num_2 hk2 hw2' (by omega)]))
                            clear hw2 hw2'
                            go_wp2_with fail
                            refine (refworth_calls _ _).mono ?_
                            rintro e w2 ⟨rfl, rfl⟩
                            go_wp2
                            go_ret3
                            exact ⟨by rw [HF.out]; rfl, HR.out.bel⟩
                        · have HF := hid (rnd_fail HR.out hkl N34.out (show oneOf (s.data.toList.drop k) = (none, 2) by rw [HM.out, num_1 hk2 (of_decide_eq_true hw2)]))
                          have e6 : ((worthN s[k + 2].toNat : Int) == 16) = true := beq_iff_eq.2 (by have := of_decide_eq_true hw2; omega)
                          clear hw2
                          go_wp2_with fail
                          refine (refworth_calls _ _).mono ?_
                          rintro e w2 ⟨rfl, rfl⟩
                          go_wp2
                          go_ret3
                          exact ⟨by rw [HF.out]; rfl, HR.out.bel⟩
                      · have HF := hid (rnd_fail HR.out hkl N34.out (show oneOf (s.data.toList.drop k) = (none, 2) by rw [HM.out, num_0 (by omega)]))
                        go_wp2
                        go_ret3
                        exact ⟨by rw [HF.out]; rfl, HR.out.bel⟩
                    · have e5 : ((s[k + 1].toNat : Int) != 120) = true := bne_iff_ne.2 (by omega)
                      have HF := hid (rnd_fail HR.out hkl N34.out (one_m2 hkl H92.out hk1 hd hx))
                      clear hd hx
                      go_wp2
                      go_ret3
                      exact ⟨by rw [HF.out]; rfl, HR.out.bel⟩
                · have HF := hid (rnd_fail HR.out hkl N34.out (one_m0 hkl H92.out (by omega)))
                  go_wp2
                  go_ret3
                  exact ⟨by rw [HF.out]; rfl, HR.out.bel⟩
              · have e2 : ((s[k].toNat : Int) != 92) = true := bne_iff_ne.2 (by omega)
                have HF := hid (rnd_fail HR.out hkl N34.out (one_not hkl hp h92))
                clear h92
                go_wp2
                go_ret3
                exact ⟨by rw [HF.out]; rfl, HR.out.bel⟩
            · have HO := hid (one_plain hkl hp)
              go_wp2_with (at_builtin; refine wp_app rfl _ _ rfl w.heap.size _ [s[k]] _ 1 rfl rfl _ (by rfl) HR.out.own (by rfl) (by omega) HR.out.bel.size (by decide) ?_)
              rintro g2 cap2 w3 h3 b3
              obtain ⟨f', hn, _⟩ := rnd_next HR.out _ HO.out h3 b3
              have HN := hid hn
              clear h3 b3 hn
              go_wp2
              go_roundw
              case rel => exact ⟨k + 1, f', _, by go_num, HN.out⟩
              case measure => simp [intOf]; omega
        · have HF : Hid (takeOut s.data.toList = ([], s.size, 11)) := hid (by
            have h1 := go_fail HR.out.go HR.out.fuel (by rw [drop_end s k (by omega)]; decide) (show oneOf (s.data.toList.drop k) = (none, 0) by rw [drop_end s k (by omega)]; rfl)
            rw [h1, show k + 0 = s.size from by omega])
          go_wp2
          go_ret3
          exact ⟨by rw [HF.out]; rfl, HR.out.bel⟩
    · have e34 : ((s[0].toNat : Int) != 34) = true := bne_iff_ne.2 (by omega)
      have HF : Hid (takeOut s.data.toList = ([], 0, 11)) := hid (by
        have hd := drop_byte s 0 hpos
        rw [List.drop_zero] at hd
        rw [hd]
        simp only [takeOut]
        rw [if_neg h34])
      clear h34
      go_enter Tryz.func40, Tryz.ntmps40
      go_wp2
      go_ret3
      exact ⟨by rw [HF.out]; rfl, Below.refl _ _⟩
  · have e0 : ((s.size : Int) == 0) = true := beq_iff_eq.2 (by omega)
    have HF : Hid (takeOut s.data.toList = ([], 0, 11)) := hid (by
      have : s.data.toList = [] := List.length_eq_zero_iff.1 (by rw [list_size]; omega)
      rw [this]; rfl)
    clear hpos
    go_enter Tryz.func40, Tryz.ntmps40
    go_wp2
    go_ret3
    exact ⟨by rw [HF.out]; rfl, Below.refl _ _⟩

end Go.Proofs.YtnojlfdojmkonaaGreatDoor
