/- The document's take: the first line, and the pool's. -/
import Derived.Test.YtnojlfdojmkonaaGreatDoorJoint2
import Derived.Test.YtnojlfdojmkonaaGreatDoorDrNs
import Derived.Test.YtnojlfdojmkonaaGreatDoorJoint12
import Derived.Test.YtnojlfdojmkonaaGreatDoorJoint11
import Derived.Test.YtnojlfdojmkonaaGreatDoorJoint15
import Derived.Test.YtnojlfdojmkonaaGreatDoorRefTake
namespace Go.Proofs.YtnojlfdojmkonaaGreatDoor
set_option linter.unusedSimpArgs false
set_option maxRecDepth 100000
open Go.RowKit

theorem nums_len {s f : List UInt8} {many : Nat} {ms : List Int} (h : numsP s f many = some ms) : ms.length = many := by
  unfold numsP at h
  split at h
  · rename_i hc
    have := allN_len h
    omega
  · cases h
def TkOut (B r n : Nat) (P : Pg) (s : List UInt8) (w : World) (e : Ending) (w' : World) : Prop :=
  ∃ b, e = .returned (.bool b) ∧ Below B w w' ∧ ((b = true ∧ ∃ Q pv cv xs, takeP P n s = some Q ∧ DrB B r Q pv cv xs w') ∨ (b = false ∧ takeP P n s = none))
set_option maxHeartbeats 3200000 in
theorem dtake_zero {B r : Nat} {P : Pg} {pv cv : Value} {xs : List Cv} (s : ByteArray) (w : World) (hB : B ≤ w.heap.size) (h : Hid (DrB B r P pv cv xs w)) (hs : s.size ≤ 900000) :
    Calls Tryz.prog 25 #[.pointer (some ⟨r, 0, none⟩), .string s, .int .i64 0] w (TkOut B r 0 P s.data.toList w) := by
  have TP := hid (show takeP P 0 s.data.toList = match numsP s.data.toList gloW 1 with | some m => some ⟨m.headD 0, P.pool, P.codes⟩ | none => none by unfold takeP; rw [if_pos rfl]; cases numsP s.data.toList gloW 1 <;> rfl)
  have OT := hid (show ∀ W Q pv cv xs, Below B w W → takeP P 0 s.data.toList = some Q → DrB B r Q pv cv xs W → TkOut B r 0 P s.data.toList w (.returned (.bool true)) W from fun W Q pv cv xs h1 h2 h3 => ⟨true, rfl, h1, .inl ⟨rfl, Q, pv, cv, xs, h2, h3⟩⟩)
  have OF := hid (show ∀ W, Below B w W → takeP P 0 s.data.toList = none → TkOut B r 0 P s.data.toList w (.returned (.bool false)) W from fun W h1 h2 => ⟨false, rfl, h1, .inr ⟨rfl, h2⟩⟩)
  go_enter Tryz.func25, Tryz.ntmps25
  go_wp2_with fail
  refine (dnumbers_calls s ⟨#[103, 108, 111, 98, 97, 108, 115]⟩ 1 w hs (by decide)).mono ?_
  rintro e w2 ⟨⟨v, b, rfl, hb⟩, b2⟩
  have B2 := hid (b2.mono hB)
  have R2 := hid (h.out.on b2)
  clear b2
  cases b with
  | false =>
    have hN : numsP s.data.toList gloW 1 = none := by
      rcases hb with ⟨h, _⟩ | ⟨_, h⟩
      · cases h
      · exact h
    have N := hid (show takeP P 0 s.data.toList = none by rw [TP.out, hN])
    clear hb hN
    go_wp2_with fail
    go_ret
    exact OF.out _ B2.out N.out
  | true =>
    obtain ⟨ms, hm, hrow, -⟩ : ∃ ms, numsP s.data.toList gloW 1 = some ms ∧ w2.ownsRow 0 3 1 v ms.length (ms.map (Value.int .i64)) ∧ ∀ g, v.ownBlock = some g → w.heap.size ≤ g := by
      rcases hb with ⟨_, h⟩ | ⟨h, _⟩
      · exact h
      · cases h
    have hl := nums_len hm
    obtain ⟨m, rfl⟩ := List.length_eq_one_iff.1 hl
    have N := hid (show takeP P 0 s.data.toList = some ⟨m, P.pool, P.codes⟩ by rw [TP.out, hm]; rfl)
    obtain ⟨g, cap, rfl, _, hg⟩ := hrow.form (by simp)
    have c0 : w2.cell? ⟨g, 0, none⟩ = some (.int .i64 m) := row_cell hrow rfl
    have k0 : w2.cell? ⟨r, 0, none⟩ = some (.int .i64 P.g) := blk_cellZ R2.out.blk 0 rfl
    have f0 := blk_free R2.out.blk 0
    clear hb hm hl hrow
    simp only [List.length_singleton]
    go_wp2_with fail
    go_ret
    refine OT.out _ _ _ _ _ (B2.out.trans ((Below.refl B w2).setCell (p := ⟨r, 0, none⟩) R2.out.low _)) N.out (R2.out.glo (Keep.set (S := fun b => b = r) rfl w2 0 _) (blk_set R2.out.blk 0 _))
theorem extract_tail (s : ByteArray) (k : Nat) : (s.extract k s.size).data.toList = s.data.toList.drop k := by
  rw [ByteArray.data_extract, Array.toList_extract, List.extract_eq_take_drop]
  refine List.take_of_length_le ?_
  rw [List.length_drop, ← Lib.size_eq s]
  exact Nat.le_refl _
theorem extract_head (s : ByteArray) (k : Nat) : (s.extract 0 k).data.toList = s.data.toList.take k := by
  rw [ByteArray.data_extract, Array.toList_extract, List.extract_eq_take_drop, List.drop_zero, Nat.sub_zero]
set_option maxHeartbeats 6400000 in
theorem dtake_pool {B r n : Nat} {P : Pg} {pv cv : Value} {xs : List Cv} (s : ByteArray) (w : World) (hB : B ≤ w.heap.size) (h : Hid (DrB B r P pv cv xs w)) (hs : s.size ≤ 900000) (hn : Hid (n ≠ 0)) (hc : Hid (P.codes = [])) (h5 : Hid (s.data.toList.take 5 = polW)) (hlen : 5 < s.size) (hp : P.pool.length ≤ 1000000) :
    Calls Tryz.prog 25 #[.pointer (some ⟨r, 0, none⟩), .string s, .int .i64 (n : Int)] w (TkOut B r n P s.data.toList w) := by
  have OT := hid (show ∀ W Q pv cv xs, Below B w W → takeP P n s.data.toList = some Q → DrB B r Q pv cv xs W → TkOut B r n P s.data.toList w (.returned (.bool true)) W from fun W Q pv cv xs h1 h2 h3 => ⟨true, rfl, h1, .inl ⟨rfl, Q, pv, cv, xs, h2, h3⟩⟩)
  have OF := hid (show ∀ W, Below B w W → takeP P n s.data.toList = none → TkOut B r n P s.data.toList w (.returned (.bool false)) W from fun W h1 h2 => ⟨false, rfl, h1, .inr ⟨rfl, h2⟩⟩)
  have TY := hid (fun hq => takeP_pool hn.out hc.out h5.out hq)
  have TN := hid (fun hq => takeP_pool_no hn.out hc.out h5.out hq)
  have PQ := hid (polQ_iff (s.data.toList.drop 5))
  have hne : ((n : Int) == 0) = false := beq_eq_false_iff_ne.2 (by have := hn.out; omega)
  obtain ⟨ca, cc, rfl⟩ := row_shape h.out.codes
  have hxl : xs.length = 0 := by
    have := congrArg List.length h.out.fst
    rw [hc.out, List.length_map] at this
    exact this
  have k2 : w.cell? ⟨r, 2, none⟩ = some (.slice ca xs.length cc) := blk_cellZ h.out.blk 2 rfl
  obtain ⟨pa, pc, rfl⟩ := row_shape h.out.pool
  have h5' : ((s.extract 0 5).toList == [112, 111, 111, 108, 32]) = true := by rw [Lib.toList_data, extract_head, h5.out]; rfl
  have TS := hid (extract_tail s 5)
  have hgt : ((s.size : Int) > 5) := by omega
  have hd : decide ((s.size : Int) > 5) = true := decide_eq_true hgt
  have TKE := hid (reftake_calls (s.extract 5 s.size) (by have h1 := Lib.size_eq (s.extract 5 s.size); have h2 := Lib.size_eq s; rw [TS.out, List.length_drop] at h1; omega))
  rw [TS.out] at TKE
  have DL := hid (show (s.data.toList.drop 5).length = s.size - 5 by rw [List.length_drop, ← Lib.size_eq s])
  have hsh := takeOut_short (s.data.toList.drop 5)
  generalize takeOut (s.data.toList.drop 5) = t at *
  obtain ⟨t, m, e0⟩ := t
  simp only at *
  have hts : (⟨t.toArray⟩ : ByteArray).size ≤ 1000000 := by
    have : (⟨t.toArray⟩ : ByteArray).size = t.length := by rw [Lib.size_eq]
    have := DL.out
    omega
  have QT := hid (fun W => refquote_calls ⟨t.toArray⟩ hts W)
  clear hts hsh
  have h5s : 5 ≤ s.size := Nat.le_of_lt hlen
  have h5i : (5 : Int) ≤ (s.size : Int) := by omega
  go_enter Tryz.func25, Tryz.ntmps25
  go_wp2_with fail
  refine (TKE.out w).mono ?_
  rintro e w2 ⟨rfl, b2⟩
  have B2 := hid b2
  have R2 := hid (h.out.on b2)
  clear b2
  by_cases he : e0 = 0
  · subst he
    by_cases hm : m = s.size - 5
    · have hq1 : ((m : Int) == (s.size : Int) - 5) = true := beq_iff_eq.2 (by omega)
      have hm2 := hid (show m = (s.data.toList.drop 5).length by rw [DL.out]; exact hm)
      go_upto_region 9 with fail
      refine wp_region_held_drew (S := fun aZ => True) (by kernel_rfl) ?_ (fun hHeld => ?_)
      · trivial
      refine tkk 0 ?_
      refine tkk 1 ?_
      refine tkk 2 ?_
      refine tkk 3 ?_
      refine tkk 4 ?_
      refine tkk 5 ?_
      refine tkk 6 ?_
      refine tk 7 (v := .bool false) ?_ ?_
      · (intro w hSw; go_simp <;> (first | rfl | omega | (rw [IntKind.wrap_i64]; omega) | assumption | (simp only [hq1]; rfl) | (simp; omega) | simp [hq1]))
      refine tkk 8 ?_
      refine tkk 9 ?_
      refine tkk 10 ?_
      refine tkk 12 ?_
      refine tkk 13 ?_
      refine rdy 11 (fun K hK => ?_)
      go_simp
      refine (QT.out _).mono ?_
      rintro e w3 ⟨rfl, b3⟩
      have b3' : Below w2.heap.size w2 w3 := by first | exact b3 | exact ((Below.refl w2.heap.size w2).drew).trans b3
      have B3 := hid ((B2.out.mono hB).trans (b3'.mono (Nat.le_trans hB B2.out.size)))
      have R3 := hid (R2.out.on b3')
      have hB3 : B ≤ w3.heap.size := Nat.le_trans hB B3.out.size
      clear b3 b3'
      go_simp
      refine hK.out _ _ trivial (fun _ => ?_)
      clear hK K
      by_cases hd2 : quoted t = s.data.toList.drop 5
      · have hq2 : (quoted t == (s.extract 5 s.size).toList) = true := by rw [Lib.toList_data, TS.out]; simpa using hd2
        have N := hid (TY.out (PQ.out.2 ⟨(by first | rfl | trivial), hm2.out, hd2⟩))
        clear hd2
        refine tk 14 (v := .bool false) ?_ ?_
        · (intro w hSw; go_simp <;> (first | rfl | omega | (rw [IntKind.wrap_i64]; omega) | assumption | (simp only [hq2]; rfl) | (simp; omega) | simp [hq2]))
        refine tkk 15 ?_
        refine wpAnyH_done (by kernel_rfl) ?_ _
        have c1 : w3.cell? ⟨r, 1, none⟩ = some (.slice pa P.pool.length pc) := blk_cellZ R3.out.blk 1 rfl
        have hr := R3.out.rlt
        go_wp2_with (first | (at_builtin; go_loud (refine row_app elAs (by decide) (by decide) rfl _ _ rfl P.pool.length (P.pool.map Value.string) [.string ⟨t.toArray⟩] rfl (by intro u hu; simp at hu; subst hu; rfl) (.slice pa P.pool.length pc) (by rfl) R3.out.pool w3.heap.size (by rfl) rfl hp ?_); go_loud (intro g cp w4 hown hgrow hat; have hn : ¬ (Value.slice pa P.pool.length pc).ownBlock = some r := (fun e => (by obtain ⟨cur, hc⟩ := row_lt R3.out.pool e; exact blk_ne hc R3.out.blk (by decide) rfl)); have q0 : w4.cell? ⟨r, 1, none⟩ = some (.slice pa P.pool.length pc) := (hgrow.cell_far ⟨r, 1, none⟩ hr (fun e => hn e.symm)).trans c1; have q1 : w4.frozen? ⟨r, 1, none⟩ = false := (hgrow.frozen_far ⟨r, 1, none⟩ hr (fun e => hn e.symm)).trans (blk_free R3.out.blk 1); have HO := hid hown; have HG := hid hgrow; have HT := hid hat; clear hown hgrow hat hn)) | fail)
        go_ret
        have R := R3.out.str (s := ⟨t.toArray⟩) hB3 HO.out HG.out HT.out
        have K4 : Keep (fun b => B ≤ b) w3 (w4.setCell ⟨r, 1, none⟩ (.slice (some ⟨g, 0, none⟩) (P.pool.length + 1) cp)) := (Keep.grown (S := fun b => B ≤ b) HG.out (fun k hk => R3.out.plow k hk)).trans (Keep.set (S := fun b => B ≤ b) R3.out.low w4 1 _) (fun _ _ h => h)
        exact OT.out _ _ _ _ _ (B3.out.trans (K4.below hB3 (fun _ h => h))) N.out R
      · have hq2 : (quoted t == (s.extract 5 s.size).toList) = false := by rw [Lib.toList_data, TS.out]; simpa using hd2
        have N := hid (TN.out (fun hp => hd2 (PQ.out.1 hp).2.2))
        clear hd2
        refine tk 14 (v := .bool true) ?_ ?_
        · (intro w hSw; go_simp <;> (first | rfl | omega | (rw [IntKind.wrap_i64]; omega) | assumption | (simp only [hq2]; rfl) | (simp; omega) | simp [hq2]))
        refine tkk 15 ?_
        refine wpAnyH_done (by kernel_rfl) ?_ _
        go_wp2_with fail
        go_ret
        first | exact OF.out _ B3.out N.out | exact OF.out _ B3.out.drew N.out
    · have hq1 : ((m : Int) == (s.size : Int) - 5) = false := beq_eq_false_iff_ne.2 (by omega)
      have N := hid (TN.out (fun hp => hm (by rw [← DL.out]; exact (PQ.out.1 hp).2.1)))
      go_upto_region 9 with fail
      refine wp_region_held_drew (S := fun aZ => True) (by kernel_rfl) ?_ (fun hHeld => ?_)
      · trivial
      refine tkk 0 ?_
      refine tkk 1 ?_
      refine tkk 2 ?_
      refine tkk 3 ?_
      refine tkk 4 ?_
      refine tkk 5 ?_
      refine tkk 6 ?_
      refine tk 7 (v := .bool true) ?_ ?_
      · (intro w hSw; go_simp <;> (first | rfl | omega | (rw [IntKind.wrap_i64]; omega) | assumption | (simp only [hq1]; rfl) | (simp; omega) | simp [hq1]))
      refine tkk 8 ?_
      refine tkk 9 ?_
      refine tks 10 ?_
      refine tks 11 ?_
      refine tks 12 ?_
      refine tks 13 ?_
      refine tks 14 ?_
      refine tkk 15 ?_
      refine wpAnyH_done (by kernel_rfl) ?_ _
      go_wp2_with fail
      go_ret
      first | exact OF.out _ (B2.out.mono hB) N.out | exact OF.out _ (B2.out.mono hB).drew N.out
  · have hq3 : (e0 == 0) = false := by simpa using he
    have N := hid (TN.out (fun hp => he (PQ.out.1 hp).1))
    go_upto_region 9 with fail
    refine wp_region_held_drew (S := fun aZ => True) (by kernel_rfl) ?_ (fun hHeld => ?_)
    · trivial
    refine tkk 0 ?_
    refine tk 1 (v := .bool true) ?_ ?_
    · (intro w hSw; go_simp <;> (first | rfl | omega | (rw [IntKind.wrap_i64]; omega) | assumption | (simp only [hq3]; rfl) | (simp; omega) | simp [hq3]))
    refine tkk 2 ?_
    refine tks 3 ?_
    refine tks 4 ?_
    refine tks 5 ?_
    refine tks 6 ?_
    refine tks 7 ?_
    refine tkk 8 ?_
    refine tkk 9 ?_
    refine tks 10 ?_
    refine tks 11 ?_
    refine tks 12 ?_
    refine tks 13 ?_
    refine tks 14 ?_
    refine tkk 15 ?_
    refine wpAnyH_done (by kernel_rfl) ?_ _
    go_wp2_with fail
    go_ret
    first | exact OF.out _ (B2.out.mono hB) N.out | exact OF.out _ (B2.out.mono hB).drew N.out

end Go.Proofs.YtnojlfdojmkonaaGreatDoor
