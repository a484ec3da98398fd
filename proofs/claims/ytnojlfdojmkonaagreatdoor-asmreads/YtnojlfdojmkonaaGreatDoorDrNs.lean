/- The document's numbers of a line. -/
import Derived.Test.YtnojlfdojmkonaaGreatDoorJoint14
import Derived.Test.YtnojlfdojmkonaaGreatDoorAsLib
namespace Go.Proofs.YtnojlfdojmkonaaGreatDoor
set_option linter.unusedSimpArgs false
set_option maxRecDepth 100000
open Go.RowKit

theorem elNm : Elem 69 3 1 8 := elem_of (z0 := .int .i64 0) (by kernel_rfl) (by kernel_rfl) rfl
theorem dallN_app : ∀ (a b : List (List UInt8)), allN (a ++ b) = match allN a, allN b with | some x, some y => some (x ++ y) | _, _ => none
  | [], b => by
    show allN b = match some [], allN b with | some x, some y => some (x ++ y) | _, _ => none
    cases allN b <;> rfl
  | s :: r, b => by
    rw [List.cons_append, allN, allN, dallN_app r b]
    cases numP s <;> cases allN r <;> cases allN b <;> rfl
theorem dallN_one (x : List UInt8) : allN [x] = (numP x).map fun n => [n] := by
  rw [allN, allN]
  cases numP x <;> rfl
theorem dallN_snoc {L : List (List UInt8)} {i : Nat} {x : List UInt8} {ms : List Int} {n : Int} (hx : L[i]? = some x) (h : allN (L.take i) = some ms) (hn : numP x = some n) : allN (L.take (i + 1)) = some (ms ++ [n]) := by
  obtain ⟨hi, rfl⟩ := List.getElem?_eq_some_iff.1 hx
  rw [List.take_succ_eq_append_getElem hi, dallN_app, h, dallN_one, hn]
  rfl
theorem dallN_stop {L : List (List UInt8)} {i : Nat} {x : List UInt8} (hx : L[i]? = some x) (hn : numP x = none) : allN L = none := by
  obtain ⟨hi, rfl⟩ := List.getElem?_eq_some_iff.1 hx
  conv => lhs; rw [← List.take_append_drop i L, List.drop_eq_getElem_cons hi]
  rw [dallN_app, allN, hn]
  cases allN (L.take i) <;> rfl
/-- what numbers answers -/
def NmOut (B : Nat) (s first : List UInt8) (many : Nat) (e : Ending) (w' : World) : Prop := ∃ v b, e = .returned (.tuple #[v, .bool b]) ∧ ((b = true ∧ ∃ ms, numsP s first many = some ms ∧ w'.ownsRow 0 3 1 v ms.length (ms.map (Value.int .i64)) ∧ ∀ g, v.ownBlock = some g → B ≤ g) ∨ (b = false ∧ numsP s first many = none))
theorem dsplit_short {b : UInt8} : ∀ (s x : List UInt8), x ∈ splitP b s → x.length ≤ s.length
  | [], x, h => by
    have : x = [] := by simpa [splitP] using h
    rw [this]; simp
  | c :: s, x, h => by
    rw [splitP] at h
    split at h
    · rcases List.mem_cons.1 h with rfl | h
      · simp
      · have := dsplit_short s x h
        simp; omega
    · have ih := dsplit_short (b := b) s
      have hne := split_ne b s
      cases hs : splitP b s with
      | nil => exact absurd hs hne
      | cons y t =>
        rw [hs] at h ih
        simp at h
        rcases h with rfl | h
        · have := ih y (by simp)
          simp; omega
        · have := ih x (by simp [h])
          simp; omega
set_option maxHeartbeats 3200000 in
theorem dnumbers_calls (s first : ByteArray) (many : Nat) (w : World) (hs : s.size ≤ 900000) (hm : many ≤ 4) :
    Calls Tryz.prog 39 #[.string s, .string first, .int .i64 (many : Int)] w fun e w' => NmOut w.heap.size s.data.toList first.data.toList many e w' ∧ Below w.heap.size w w' := by
  have OUT := hid (show ∀ v b w', ((b = true ∧ ∃ ms, numsP s.data.toList first.data.toList many = some ms ∧ w'.ownsRow 0 3 1 v ms.length (ms.map (Value.int .i64)) ∧ ∀ g, v.ownBlock = some g → w.heap.size ≤ g) ∨ (b = false ∧ numsP s.data.toList first.data.toList many = none)) → NmOut w.heap.size s.data.toList first.data.toList many (.returned (.tuple #[v, .bool b])) w' from fun v b w' h => ⟨v, b, rfl, h⟩)
  have hz := Lib.size_eq s
  have SPL := hid (split_length 32 s.data.toList)
  have SHO := hid (fun x => dsplit_short (b := 32) s.data.toList x)
  have NE := hid (split_ne 32 s.data.toList)
  have NP := hid (show numsP s.data.toList first.data.toList many = if (splitP 32 s.data.toList).headD [] = first.data.toList ∧ (splitP 32 s.data.toList).tail.length = many then allN (splitP 32 s.data.toList).tail else none from rfl)
  go_enter Tryz.func39, Tryz.ntmps39
  go_wp2_with fail
  refine (dwords_calls s w hs).mono ?_
  rintro e w2 ⟨⟨v, ss, rfl, hss, hP⟩, b2⟩
  have B2 := hid b2
  have SZ := hid (show ∀ x ∈ ss, x.size ≤ 1000000 from fun x hx => by
    have h1 := SHO.out x.data.toList (by rw [← hss]; exact List.mem_map.2 ⟨x, hx, rfl⟩)
    have h2 := Lib.size_eq x
    omega)
  have hlen : ss.length ≤ 1000000 := by
    have h1 := congrArg List.length hss
    rw [List.length_map] at h1
    have := SPL.out
    omega
  rw [← hss] at NP NE
  clear b2 hz hss SPL SHO
  obtain ⟨s0, rs, rfl⟩ : ∃ s0 rs, ss = s0 :: rs := by
    cases ss with
    | nil => exact absurd rfl NE.out
    | cons a b => exact ⟨a, b, rfl⟩
  simp only [List.map_cons, List.headD_cons, List.tail_cons, List.length_map] at NP
  obtain ⟨ao, cap, rfl⟩ := plIn_shape hP
  obtain ⟨sb, off, rfl, hsb, c0⟩ := plIn_at hP (i := 0) rfl
  have HP := hid hP
  rw [Nat.add_zero] at c0
  clear hP NE
  by_cases hc : s0.data.toList = first.data.toList
  · have hq : (s0.toList == first.toList) = true := by rw [Lib.toList_data, Lib.toList_data, hc]; simp
    by_cases hl : rs.length = many
    · subst hl
      have N := hid (show numsP s.data.toList first.data.toList rs.length = allN (rs.map (·.data.toList)) by rw [NP.out, if_pos ⟨hc, rfl⟩])
      clear hc NP
      go_wp2_with fail
      go_loopw [9, 10] (fun dv kv wr => ∃ (k : Nat) (ms : List Int), k ≤ rs.length ∧ ms.length = k ∧ kv = .int .i64 ((k : Int) + 1) ∧ Hid (allN ((rs.map (·.data.toList)).take k) = some ms ∧ wr.ownsRow 0 3 1 dv ms.length (ms.map (Value.int .i64)) ∧ (∀ g, dv.ownBlock = some g → w2.heap.size ≤ g) ∧ Below w2.heap.size w2 wr)) (fun _ kv _ => rs.length + 1 - (intOf kv).toNat)
      case atStart => exact ⟨0, [], Nat.zero_le _, rfl, rfl, hid ⟨by simp [allN], World.ownsRow_nil _ _ _ _, fun g hg => by simp [Value.ownBlock] at hg, Below.refl _ _⟩⟩
      case round =>
        obtain ⟨k, ms, hk, hmk, rfl, hR⟩ := hrel
        subst hmk
        rename World => wr
        obtain ⟨da, dc, rfl⟩ := row_shape hR.out.2.1
        have RW := hid hR.out.2.1
        have hlow := hid hR.out.2.2.1
        have LW := hid hR.out.2.2.2
        have AN := hid hR.out.1
        clear hR
        by_cases hkl : ms.length < rs.length
        · have hx : (s0 :: rs)[ms.length + 1]? = some rs[ms.length] := by rw [List.getElem?_cons_succ]; exact List.getElem?_eq_getElem hkl
          have hx2 := hid (show (rs.map (·.data.toList))[ms.length]? = some (rs[ms.length]).data.toList by rw [List.getElem?_map, List.getElem?_eq_getElem hkl]; rfl)
          obtain ⟨sb', off', e1, hsb', c1⟩ := plIn_at (plIn_on HP.out LW.out) hx
          injection e1 with e1; injection e1 with e1 e2
          subst e1 e2
          have hsx := SZ.out rs[ms.length] (by simp)
          clear hx
          generalize rs[ms.length] = x at *
          go_wp2_with fail
          refine (dnumber_calls x wr hsx).mono ?_
          rintro e w3 ⟨⟨n, b, rfl, hb⟩, b3⟩
          have RW3 := hid (row_keep RW.out (fun g hg => by
            obtain ⟨cur, hc⟩ := row_lt RW.out hg
            exact b3.block g (blk_lt hc)))
          have LW3 := hid (LW.out.trans (b3.mono LW.out.size))
          have hsz3 := Nat.le_trans B2.out.size LW3.out.size
          clear b3 c1
          cases b with
          | false =>
            have hN : numP x.data.toList = none := by
              rcases hb with ⟨h, _⟩ | ⟨_, h⟩
              · cases h
              · exact h
            have M := hid (show numsP s.data.toList first.data.toList rs.length = none by rw [N.out]; exact dallN_stop hx2.out hN)
            clear hb hN
            go_wp2_with fail
            go_ret2
            exact ⟨OUT.out _ _ _ (.inr ⟨rfl, M.out⟩), B2.out.trans (LW3.out.mono B2.out.size)⟩
          | true =>
            have hN : numP x.data.toList = some n := by
              rcases hb with ⟨_, h⟩ | ⟨h, _⟩
              · exact h
              · cases h
            have AN2 := hid (dallN_snoc hx2.out AN.out hN)
            clear hb hN
            generalize hd : ms.map (Value.int .i64) = done at *
            have HD := hid hd
            clear hd
            go_wp2_with (first | (at_builtin; refine row_app elNm (by decide) (by decide) rfl _ _ rfl ms.length done [.int .i64 n] rfl (by intro u hu; simp at hu; subst hu; rfl) (.slice da ms.length dc) (by rfl) RW3.out w3.heap.size (by rfl) rfl (by omega) ?_; intro g cp w4 hown hgrow hat; have HO := hid hown; have HG := hid hgrow; have HT := hid hat; clear hown hgrow hat) | fail)
            exact ⟨⟨ms.length + 1, ms ++ [n], by omega, by simp, by simp, hid ⟨AN2.out, by rw [List.map_append, HD.out, List.length_append]; exact HO.out, fun g' hg' => by
              simp [Value.ownBlock] at hg'
              subst hg'
              rcases HT.out with h1 | h1
              · exact hlow.out _ h1
              · have := LW3.out.size; omega, LW3.out.trans ((Keep.grown (S := fun y => w2.heap.size ≤ y) HG.out (fun y hy => hlow.out y hy)).below LW3.out.size (fun _ h => h))⟩⟩, by simp [intOf]; omega⟩
        · have hke : ms.length = rs.length := by omega
          have M := hid (show numsP s.data.toList first.data.toList rs.length = some ms by rw [N.out, ← AN.out, hke, ← List.length_map (f := fun x : ByteArray => x.data.toList), List.take_length])
          clear hke hk
          go_wp2_with fail
          go_ret2
          exact ⟨OUT.out _ _ _ (.inl ⟨rfl, ms, M.out, RW.out, fun g hg => Nat.le_trans B2.out.size (hlow.out g hg)⟩), B2.out.trans (LW.out.mono B2.out.size)⟩
    · have hl2 : ((rs.length : Int) + 1 == (many : Int) + 1) = false := beq_eq_false_iff_ne.2 (by omega)
      have N := hid (show numsP s.data.toList first.data.toList many = none by rw [NP.out, if_neg (fun h => hl h.2)])
      clear hc
      go_wp2_with fail
      go_ret2
      exact ⟨OUT.out _ _ _ (.inr ⟨rfl, N.out⟩), B2.out⟩
  · have hq : (s0.toList == first.toList) = false := by rw [Lib.toList_data, Lib.toList_data]; simpa using hc
    have N := hid (show numsP s.data.toList first.data.toList many = none by rw [NP.out, if_neg (fun h => hc h.1)])
    clear hc
    go_wp2_with fail
    go_ret2
    exact ⟨OUT.out _ _ _ (.inr ⟨rfl, N.out⟩), B2.out⟩

end Go.Proofs.YtnojlfdojmkonaaGreatDoor
