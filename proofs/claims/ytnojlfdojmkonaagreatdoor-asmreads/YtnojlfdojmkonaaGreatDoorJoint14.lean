/- The document's words of a line. The document's number of a word. -/
import Derived.Test.YtnojlfdojmkonaaGreatDoorAsW
import Derived.Test.YtnojlfdojmkonaaGreatDoorJoint7
import Derived.Test.YtnojlfdojmkonaaGreatDoorCdMem
import Derived.Test.YtnojlfdojmkonaaGreatDoorJoint13
namespace Go.Proofs.YtnojlfdojmkonaaGreatDoor
set_option linter.unusedSimpArgs false
set_option maxRecDepth 100000
open Go.RowKit

/-- what the words are so far: k bytes are seen, a word begins at a -/
structure WdI (l : List UInt8) (k a : Nat) (ss : List ByteArray) : Prop where
  le : a ≤ k
  split : k ≤ l.length → ss.map (·.data.toList) ++ splitP 32 (l.drop a) = splitP 32 l
  clean : k ≤ l.length → ∀ x ∈ (l.drop a).take (k - a), x ≠ 32
  ended : k = l.length + 1 → ss.map (·.data.toList) = splitP 32 l
  few : ss.length ≤ k
theorem wdI_zero (l : List UInt8) : WdI l 0 0 [] := ⟨Nat.le_refl _, fun _ => by simp, fun _ x hx => by simp at hx, fun h => by omega, Nat.le_refl _⟩
/-- the word from a up to k -/
def wdB (l : List UInt8) (a k : Nat) : ByteArray := ⟨((l.drop a).take (k - a)).toArray⟩
theorem drop_take_at {l : List UInt8} {a k : Nat} (h1 : a ≤ k) (h2 : k < l.length) : l.drop a = (l.drop a).take (k - a) ++ l[k] :: l.drop (k + 1) := by
  conv => lhs; rw [← List.take_append_drop (k - a) (l.drop a)]
  rw [List.drop_drop, show a + (k - a) = k by omega, List.drop_eq_getElem_cons h2]
theorem WdI.cut {l : List UInt8} {k a : Nat} {ss : List ByteArray} (h : WdI l k a ss) (hk : k < l.length) (h32 : l[k] = 32) : WdI l (k + 1) (k + 1) (ss ++ [wdB l a k]) := by
  refine ⟨Nat.le_refl _, fun _ => ?_, fun _ x hx => by simp at hx, fun h => by omega, by have := h.few; simp; omega⟩
  rw [← h.split (by omega), List.map_append, List.append_assoc]
  congr 1
  conv => rhs; rw [drop_take_at h.le hk, h32, split_app _ (h.clean (by omega))]
  rfl
theorem WdI.go {l : List UInt8} {k a : Nat} {ss : List ByteArray} (h : WdI l k a ss) (hk : k < l.length) (h32 : l[k] ≠ 32) : WdI l (k + 1) a ss := by
  refine ⟨by have := h.le; omega, fun _ => h.split (by omega), fun _ x hx => ?_, fun h => by omega, by have := h.few; omega⟩
  have hle := h.le
  rw [show k + 1 - a = (k - a) + 1 by omega, List.take_succ_eq_append_getElem (by rw [List.length_drop]; omega)] at hx
  rcases List.mem_append.1 hx with hx | hx
  · exact h.clean (by omega) x hx
  · rw [List.mem_singleton.1 hx, List.getElem_drop]
    simpa [show a + (k - a) = k by omega] using h32
theorem WdI.last {l : List UInt8} {k a : Nat} {ss : List ByteArray} (h : WdI l k a ss) (hk : k = l.length) : WdI l (k + 1) (k + 1) (ss ++ [wdB l a k]) := by
  refine ⟨Nat.le_refl _, fun h => by omega, fun _ x hx => by simp at hx, fun _ => ?_, by have := h.few; simp; omega⟩
  have e : (l.drop a).take (k - a) = l.drop a := List.take_of_length_le (by rw [List.length_drop]; omega)
  have hc := h.clean (by omega)
  rw [← h.split (by omega), List.map_append, split_none (by rw [e] at hc; exact hc)]
  simp [wdB, e]
theorem slice_wd (s : ByteArray) (a k : Nat) : s.extract a k = wdB s.data.toList a k := by
  unfold wdB
  apply ByteArray.ext
  rw [ByteArray.data_extract, ← Array.toList_inj]
  simp
theorem plIn_row {v : Value} {ss : List ByteArray} {w : World} (h : w.ownsRow 0 9 1 v ss.length (ss.map Value.string)) : PlIn w.heap.size w v ss := by
  rcases Nat.eq_zero_or_pos ss.length with hz | hz
  · obtain ⟨ao, cap, e⟩ := row_shape h
    rw [hz] at e
    exact .inl ⟨ao, cap, e, List.length_eq_zero_iff.1 hz⟩
  · obtain ⟨g, cap, e, _, hg⟩ := h.form hz
    rw [e] at h
    exact .inr ⟨g, 0, cap, e, hg, fun i s hs => by rw [Nat.zero_add]; exact row_cell h (by rw [List.getElem?_map, hs]; rfl)⟩
set_option maxHeartbeats 3200000 in
theorem dwords_calls (s : ByteArray) (w : World) (hs : s.size ≤ 900000) :
    Calls Tryz.prog 61 #[.string s] w fun e w' => (∃ v ss, e = .returned v ∧ ss.map (·.data.toList) = splitP 32 s.data.toList ∧ PlIn w'.heap.size w' v ss) ∧ Below w.heap.size w w' := by
  have hz := Lib.size_eq s
  have I0 := hid (wdI_zero s.data.toList)
  go_enter Tryz.func61, Tryz.ntmps61
  go_wp2_with fail
  go_loopw [3, 4, 5] (fun dv av kv wr => ∃ (k a : Nat) (ss : List ByteArray), k ≤ s.size + 1 ∧ a ≤ k ∧ ss.length ≤ k ∧ av = .int .i64 a ∧ kv = .int .i64 k ∧ Hid (WdI s.data.toList k a ss ∧ wr.ownsRow 0 9 1 dv ss.length (ss.map Value.string) ∧ (∀ g, dv.ownBlock = some g → w.heap.size ≤ g) ∧ Below w.heap.size w wr)) (fun _ _ kv _ => s.size + 1 - (intOf kv).toNat)
  case atStart => exact ⟨0, 0, [], Nat.zero_le _, Nat.le_refl _, Nat.le_refl _, rfl, rfl, hid ⟨I0.out, World.ownsRow_nil _ _ _ _, fun g hg => by simp [Value.ownBlock] at hg, Below.refl _ _⟩⟩
  case round =>
    clear I0
    obtain ⟨k, a, ss, hk, hak, hsk, rfl, rfl, hR⟩ := hrel
    rename World => wr
    obtain ⟨da, dc, rfl⟩ := row_shape hR.out.2.1
    have hI := hid hR.out.1
    have RW := hid hR.out.2.1
    have hlow := hid hR.out.2.2.1
    have LW := hid hR.out.2.2.2
    have hsz2 := LW.out.size
    clear hR
    by_cases hkl : k < s.size
    · have hx : s[k]'hkl = s.data.toList[k]'(by omega) := by simp [ByteArray.getElem_eq_getElem_data]
      by_cases h32 : s[k]'hkl = 32
      · have hq : (((s[k]'hkl).toNat : Int) == 32) = true := by rw [h32]; rfl
        have SL := hid (slice_wd s a k)
        have J := hid (hI.out.cut (by omega) (by rw [← hx]; exact h32))
        generalize hd : ss.map Value.string = done at *
        have HD := hid hd
        clear hd hx
        have hkle : k ≤ s.size := Nat.le_of_lt hkl
        have hne : ((k : Int) == (s.size : Int)) = false := beq_eq_false_iff_ne.2 (by omega)
        clear hz
        go_wp2_with (first | (at_builtin; refine row_app elAs (by decide) (by decide) rfl _ _ rfl ss.length done [.string (s.extract a k)] rfl (by intro u hu; simp at hu; subst hu; rfl) (.slice da ss.length dc) (by rfl) RW.out wr.heap.size (by rfl) rfl (by omega) ?_; intro g cp w3 hown hgrow hat; have HO := hid hown; have HG := hid hgrow; have HT := hid hat; clear hown hgrow hat) | fail)
        exact ⟨⟨k + 1, k + 1, ss ++ [s.extract a k], by omega, Nat.le_refl _, by simp; omega, by simp, by simp, hid ⟨by rw [SL.out]; exact J.out, by rw [List.map_append, HD.out, List.length_append]; exact HO.out, fun g' hg' => by
          simp [Value.ownBlock] at hg'
          subst hg'
          rcases HT.out with h1 | h1
          · exact hlow.out _ h1
          · omega, LW.out.trans ((Keep.grown (S := fun x => w.heap.size ≤ x) HG.out (fun x hx => hlow.out x hx)).below hsz2 (fun _ h => h))⟩⟩, by simp [intOf]; omega⟩
      · have hq : (((s[k]'hkl).toNat : Int) == 32) = false := by
          refine beq_eq_false_iff_ne.2 fun h => h32 (UInt8.toNat_inj.1 ?_)
          have : ((s[k]'hkl).toNat : Int) = (32 : Nat) := h
          exact Int.ofNat.inj this
        have J := hid (hI.out.go (by omega) (by rw [← hx]; exact h32))
        have hkle : k ≤ s.size := Nat.le_of_lt hkl
        have hne : ((k : Int) == (s.size : Int)) = false := beq_eq_false_iff_ne.2 (by omega)
        clear hx hz
        go_wp2_with fail
        exact ⟨⟨k + 1, a, ss, by omega, by omega, by omega, rfl, by simp, hid ⟨J.out, RW.out, hlow.out, LW.out⟩⟩, by simp [intOf]; omega⟩
    · by_cases hke : k = s.size
      · have SL := hid (slice_wd s a k)
        have J := hid (hI.out.last (by omega))
        have hkle : k ≤ s.size := Nat.le_of_eq hke
        have hne : ((k : Int) == (s.size : Int)) = true := beq_iff_eq.2 (by omega)
        generalize hd : ss.map Value.string = done at *
        have HD := hid hd
        have hke' := hid hke
        clear hd hz hke hkl
        go_wp2_with (first | (at_builtin; refine row_app elAs (by decide) (by decide) rfl _ _ rfl ss.length done [.string (s.extract a k)] rfl (by intro u hu; simp at hu; subst hu; rfl) (.slice da ss.length dc) (by rfl) RW.out wr.heap.size (by rfl) rfl (by omega) ?_; intro g cp w3 hown hgrow hat; have HO := hid hown; have HG := hid hgrow; have HT := hid hat; clear hown hgrow hat) | fail)
        exact ⟨⟨k + 1, k + 1, ss ++ [s.extract a k], by have := hke'.out; omega, Nat.le_refl _, by simp; omega, by simp, by simp, hid ⟨by rw [SL.out]; exact J.out, by rw [List.map_append, HD.out, List.length_append]; exact HO.out, fun g' hg' => by
          simp [Value.ownBlock] at hg'
          subst hg'
          rcases HT.out with h1 | h1
          · exact hlow.out _ h1
          · omega, LW.out.trans ((Keep.grown (S := fun x => w.heap.size ≤ x) HG.out (fun x hx => hlow.out x hx)).below hsz2 (fun _ h => h))⟩⟩, by have := hke'.out; simp [intOf]; omega⟩
      · have hk1 : k = s.size + 1 := by omega
        have hgt : ¬ (k ≤ s.size) := by omega
        have J := hid (hI.out.ended (by omega))
        clear hz hke hkl hk1
        go_wp2_with fail
        go_ret
        exact ⟨⟨_, ss, rfl, J.out, plIn_row RW.out⟩, LW.out⟩

end Go.Proofs.YtnojlfdojmkonaaGreatDoor

namespace Go.Proofs.YtnojlfdojmkonaaGreatDoor
set_option linter.unusedSimpArgs false
set_option maxRecDepth 100000
open Go.RowKit

theorem num_least {s : List UInt8} (h : s = digs (-4611686018427387904)) : numP s = some (-4611686018427387904) := by unfold numP; rw [if_pos h]
theorem num_neg {s : List UInt8} (h : s ≠ digs (-4611686018427387904)) (h45 : s.head? = some 45) : numP s = if (readOut s.tail).2 = 0 ∧ digs (-(readOut s.tail).1) = s then some (-(readOut s.tail).1) else none := by
  unfold numP; rw [if_neg h, if_pos h45, if_pos h45]
theorem num_pos {s : List UInt8} (h : s ≠ digs (-4611686018427387904)) (h45 : s.head? ≠ some 45) : numP s = if (readOut s).2 = 0 ∧ digs (readOut s).1 = s then some (readOut s).1 else none := by
  unfold numP; rw [if_neg h, if_neg h45, if_neg h45]
theorem tail_ba (s : ByteArray) : (s.extract 1 s.size).data.toList = s.data.toList.tail := by
  rw [ByteArray.data_extract, Array.toList_extract, List.extract_eq_take_drop, List.drop_one]
  refine List.take_of_length_le ?_
  rw [List.length_tail, ← Lib.size_eq s]
  exact Nat.le_refl _
def NbOut (s : List UInt8) (e : Ending) : Prop := ∃ n b, e = .returned (.tuple #[.int .i64 n, .bool b]) ∧ ((b = true ∧ numP s = some n) ∨ (b = false ∧ numP s = none))
theorem list_eq_iff (s : ByteArray) (l : List UInt8) : (s.toList == l) = decide (s.data.toList = l) := by
  rw [Lib.toList_data]
  by_cases h : s.data.toList = l
  · rw [decide_eq_true h]; simpa using h
  · rw [decide_eq_false h]; simpa using h
theorem dread_all (l : List UInt8) : -4611686018427387904 ≤ (readOut l).1 ∧ (readOut l).1 ≤ 4611686018427387903 := by
  unfold readOut
  split
  · simp
  · rename_i hc
    simp at hc
    have := rst_bounds l (by simpa using hc.2)
    unfold rout
    split
    · simp
    · simp only; omega
set_option maxHeartbeats 3200000 in
theorem dnumber_calls (s : ByteArray) (w : World) (hs : s.size ≤ 1000000) :
    Calls Tryz.prog 62 #[.string s] w fun e w' => NbOut s.data.toList e ∧ Below w.heap.size w w' := by
  have RD := hid (fun (t : ByteArray) (ht : t.size ≤ 1000000) W => refread_calls t (by omega) W)
  have OUT := hid (show ∀ n b, ((b = true ∧ numP s.data.toList = some n) ∨ (b = false ∧ numP s.data.toList = none)) → NbOut s.data.toList (.returned (.tuple #[.int .i64 n, .bool b])) from fun n b h => ⟨n, b, rfl, h⟩)
  have hEQ := hid (fun l => list_eq_iff s l)
  go_enter Tryz.func62, Tryz.ntmps62
  go_wp2_with fail
  refine (refdigits_calls (-4611686018427387904) (by decide) (by decide) w).mono ?_
  rintro e w2 ⟨rfl, b2⟩
  have B2 := hid b2
  clear b2
  by_cases hL : s.data.toList = digs (-4611686018427387904)
  · have hq : (s.toList == digs (-4611686018427387904)) = true := by rw [hEQ.out]; exact decide_eq_true hL
    have N := hid (num_least hL)
    clear hL
    go_wp2_with fail
    go_ret2
    exact ⟨OUT.out _ _ (.inl ⟨rfl, N.out⟩), B2.out⟩
  · have hq : (s.toList == digs (-4611686018427387904)) = false := by rw [hEQ.out]; exact decide_eq_false hL
    have HNL := hid hL
    clear hL
    by_cases h0 : 0 < s.size
    · have hz := Lib.size_eq s
      have hx : s.data.toList.head? = some (s[0]'h0) := by
        rw [List.head?_eq_getElem?, List.getElem?_eq_getElem (by omega)]
        simp [ByteArray.getElem_eq_getElem_data]
      by_cases h45 : s[0]'h0 = 45
      · have HH := hid (show s.data.toList.head? = some 45 by rw [hx, h45])
        have hq4 : (((s[0]'h0).toNat : Int) == 45) = true := by rw [h45]; rfl
        have TL := hid (show (s.extract 1 s.size).data.toList = s.data.toList.tail from tail_ba s)
        have h1s : 1 ≤ s.size := h0
        clear hx hz
        go_wp2_with fail
        refine (RD.out (s.extract 1 s.size) (by have h1 := Lib.size_eq (s.extract 1 s.size); have h2 := Lib.size_eq s; rw [TL.out, List.length_tail] at h1; omega) w2).mono ?_
        rintro e w3 ⟨rfl, rfl⟩
        have NP := hid (num_neg HNL.out HH.out)
        have RG := hid (dread_all s.data.toList.tail)
        simp only [TL.out]
        generalize readOut (s.data.toList.tail) = q at *
        obtain ⟨n0, e0⟩ := q
        simp only at *
        by_cases he : e0 = 0
        · subst he
          have hrg := RG.out
          have hwr : IntKind.i64.wrap (0 - n0) = -n0 := by rw [IntKind.wrap_i64]; omega
          go_wp2_with fail
          refine (refdigits_calls (-n0) (by omega) (by omega) w2).mono ?_
          rintro e w4 ⟨rfl, b4⟩
          have B4 := hid (B2.out.trans (b4.mono B2.out.size))
          clear b4 hrg
          by_cases hd : digs (-n0) = s.data.toList
          · have hq2 : (digs (-n0) == s.toList) = true := by rw [Lib.toList_data]; simpa using hd
            have N := hid (show numP s.data.toList = some (-n0) by rw [NP.out, if_pos ⟨(by first | rfl | trivial), hd⟩])
            clear hd
            go_wp2_with fail
            go_ret2
            exact ⟨OUT.out _ _ (.inl ⟨rfl, N.out⟩), B4.out⟩
          · have hq2 : (digs (-n0) == s.toList) = false := by rw [Lib.toList_data]; simpa using hd
            have N := hid (show numP s.data.toList = none by rw [NP.out, if_neg (fun h => hd h.2)])
            clear hd
            go_wp2_with fail
            go_ret2
            exact ⟨OUT.out _ _ (.inr ⟨rfl, N.out⟩), B4.out⟩
        · have hq3 : (e0 == 0) = false := by simpa using he
          have N := hid (show numP s.data.toList = none by rw [NP.out, if_neg (fun h => he h.1)])
          have hrg := RG.out
          have hwr : IntKind.i64.wrap (0 - n0) = -n0 := by rw [IntKind.wrap_i64]; omega
          clear he
          go_wp2_with fail
          go_ret2
          exact ⟨OUT.out _ _ (.inr ⟨rfl, N.out⟩), B2.out⟩
      · have HH := hid (show s.data.toList.head? ≠ some 45 by rw [hx]; intro h; exact h45 (Option.some.inj h))
        have hq4 : (((s[0]'h0).toNat : Int) == 45) = false := by
          refine beq_eq_false_iff_ne.2 fun h => h45 (UInt8.toNat_inj.1 ?_)
          have : ((s[0]'h0).toNat : Int) = (45 : Nat) := h
          exact Int.ofNat.inj this
        clear hx hz
        go_wp2_with fail
        refine (RD.out s hs w2).mono ?_
        rintro e w3 ⟨rfl, rfl⟩
        have NP := hid (num_pos HNL.out HH.out)
        have RG := hid (dread_all s.data.toList)
        generalize readOut (s.data.toList) = q at *
        obtain ⟨n0, e0⟩ := q
        simp only at *
        by_cases he : e0 = 0
        · subst he
          have hrg := RG.out
          go_wp2_with fail
          refine (refdigits_calls (n0) (by omega) (by omega) w2).mono ?_
          rintro e w4 ⟨rfl, b4⟩
          have B4 := hid (B2.out.trans (b4.mono B2.out.size))
          clear b4 hrg
          by_cases hd : digs (n0) = s.data.toList
          · have hq2 : (digs (n0) == s.toList) = true := by rw [Lib.toList_data]; simpa using hd
            have N := hid (show numP s.data.toList = some (n0) by rw [NP.out, if_pos ⟨(by first | rfl | trivial), hd⟩])
            clear hd
            go_wp2_with fail
            go_ret2
            exact ⟨OUT.out _ _ (.inl ⟨rfl, N.out⟩), B4.out⟩
          · have hq2 : (digs (n0) == s.toList) = false := by rw [Lib.toList_data]; simpa using hd
            have N := hid (show numP s.data.toList = none by rw [NP.out, if_neg (fun h => hd h.2)])
            clear hd
            go_wp2_with fail
            go_ret2
            exact ⟨OUT.out _ _ (.inr ⟨rfl, N.out⟩), B4.out⟩
        · have hq3 : (e0 == 0) = false := by simpa using he
          have N := hid (show numP s.data.toList = none by rw [NP.out, if_neg (fun h => he h.1)])
          have hrg := RG.out
          clear he
          go_wp2_with fail
          go_ret2
          exact ⟨OUT.out _ _ (.inr ⟨rfl, N.out⟩), B2.out⟩
    · have HH := hid (show s.data.toList.head? ≠ some 45 by
        have hz := Lib.size_eq s
        rw [List.length_eq_zero_iff.1 (show s.data.toList.length = 0 by omega)]
        intro h; cases h)
      go_wp2_with fail
      refine (RD.out s hs w2).mono ?_
      rintro e w3 ⟨rfl, rfl⟩
      have NP := hid (num_pos HNL.out HH.out)
      have RG := hid (dread_all s.data.toList)
      generalize readOut (s.data.toList) = q at *
      obtain ⟨n0, e0⟩ := q
      simp only at *
      by_cases he : e0 = 0
      · subst he
        have hrg := RG.out
        go_wp2_with fail
        refine (refdigits_calls (n0) (by omega) (by omega) w2).mono ?_
        rintro e w4 ⟨rfl, b4⟩
        have B4 := hid (B2.out.trans (b4.mono B2.out.size))
        clear b4 hrg
        by_cases hd : digs (n0) = s.data.toList
        · have hq2 : (digs (n0) == s.toList) = true := by rw [Lib.toList_data]; simpa using hd
          have N := hid (show numP s.data.toList = some (n0) by rw [NP.out, if_pos ⟨(by first | rfl | trivial), hd⟩])
          clear hd
          go_wp2_with fail
          go_ret2
          exact ⟨OUT.out _ _ (.inl ⟨rfl, N.out⟩), B4.out⟩
        · have hq2 : (digs (n0) == s.toList) = false := by rw [Lib.toList_data]; simpa using hd
          have N := hid (show numP s.data.toList = none by rw [NP.out, if_neg (fun h => hd h.2)])
          clear hd
          go_wp2_with fail
          go_ret2
          exact ⟨OUT.out _ _ (.inr ⟨rfl, N.out⟩), B4.out⟩
      · have hq3 : (e0 == 0) = false := by simpa using he
        have N := hid (show numP s.data.toList = none by rw [NP.out, if_neg (fun h => he h.1)])
        have hrg := RG.out
        clear he
        go_wp2_with fail
        go_ret2
        exact ⟨OUT.out _ _ (.inr ⟨rfl, N.out⟩), B2.out⟩

end Go.Proofs.YtnojlfdojmkonaaGreatDoor
