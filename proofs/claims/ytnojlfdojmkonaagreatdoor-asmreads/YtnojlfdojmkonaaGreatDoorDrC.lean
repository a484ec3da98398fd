/- The document's take: a code's line. -/
import Derived.Test.YtnojlfdojmkonaaGreatDoorJoint2
import Derived.Test.YtnojlfdojmkonaaGreatDoorDrT
namespace Go.Proofs.YtnojlfdojmkonaaGreatDoor
set_option linter.unusedSimpArgs false
set_option maxRecDepth 100000
open Go.RowKit

theorem takeP_none {P : Pg} {n : Nat} {s : List UInt8} (hn : n ≠ 0) (hc : P.codes = []) (hp : 5 < s.length → s.take 5 ≠ polW) (h : numsP s codW 4 = none) : takeP P n s = none := by
  unfold takeP
  rw [if_neg hn, if_neg (fun hh => hp hh.2.1 hh.2.2), h, hc]; rfl
theorem four_of {ms : List Int} (h : ms.length = 4) : ∃ n0 n1 n2 n3, ms = [n0, n1, n2, n3] := by
  match ms, h with
  | [a, b, c, d], _ => exact ⟨a, b, c, d, rfl⟩
set_option maxHeartbeats 6400000 in
theorem dtake_short {B r n : Nat} {P : Pg} {pv cv : Value} {xs : List Cv} (s : ByteArray) (w : World) (hB : B ≤ w.heap.size) (h : Hid (DrB B r P pv cv xs w)) (hs : s.size ≤ 900000) (hn : Hid (n ≠ 0)) (hc : Hid (P.codes = [])) (hlen : s.size ≤ 5) (hx : xs.length ≤ 1000000) :
    Calls Tryz.prog 25 #[.pointer (some ⟨r, 0, none⟩), .string s, .int .i64 (n : Int)] w (TkOut B r n P s.data.toList w) := by
  have OT := hid (show ∀ W Q pv cv xs, Below B w W → takeP P n s.data.toList = some Q → DrB B r Q pv cv xs W → TkOut B r n P s.data.toList w (.returned (.bool true)) W from fun W Q pv cv xs h1 h2 h3 => ⟨true, rfl, h1, .inl ⟨rfl, Q, pv, cv, xs, h2, h3⟩⟩)
  have OF := hid (show ∀ W, Below B w W → takeP P n s.data.toList = none → TkOut B r n P s.data.toList w (.returned (.bool false)) W from fun W h1 h2 => ⟨false, rfl, h1, .inr ⟨rfl, h2⟩⟩)
  have TC := hid (fun m (hm : numsP s.data.toList codW 4 = some m) => takeP_code (P := P) hn.out (fun _ h5 => by rw [pool_word h5] at hm; cases hm) hm)
  have hne : ((n : Int) == 0) = false := beq_eq_false_iff_ne.2 (by have := hn.out; omega)
  obtain ⟨ca, cc, rfl⟩ := row_shape h.out.codes
  have hxl : xs.length = P.codes.length := by
    have := congrArg List.length h.out.fst
    rwa [List.length_map] at this
  have k2 : w.cell? ⟨r, 2, none⟩ = some (.slice ca xs.length cc) := blk_cellZ h.out.blk 2 rfl
  have hx0 : ((xs.length : Int) == 0) = true := by rw [hxl, hc.out]; rfl
  have hx1 : decide ((xs.length : Int) > 0) = false := decide_eq_false (by rw [hxl, hc.out]; decide)
  have hx2 : ¬ (0 < xs.length) := by rw [hxl, hc.out]; decide
  have hgt : decide ((s.size : Int) > 5) = false := decide_eq_false (by omega)
  have hpw := hid (show 5 < s.data.toList.length → s.data.toList.take 5 ≠ polW from fun h => absurd h (by have := Lib.size_eq s; omega))
  clear hxl
  go_enter Tryz.func25, Tryz.ntmps25
  go_wp2_with fail
  refine (dnumbers_calls s ⟨#[99, 111, 100, 101]⟩ 4 w hs (by decide)).mono ?_
  rintro e w2 ⟨⟨v, b, rfl, hb⟩, b2⟩
  have B2 := hid (b2.mono hB)
  have R2 := hid (h.out.on b2)
  have hB2 : B ≤ w2.heap.size := Nat.le_trans hB b2.size
  clear b2 k2
  cases b with
  | false =>
    have hN : numsP s.data.toList codW 4 = none := by
      rcases hb with ⟨h, _⟩ | ⟨_, h⟩
      · cases h
      · exact h
    have N := hid (takeP_none hn.out hc.out hpw.out hN)
    clear hb hN
    go_wp2_with fail
    go_loopw [15] (fun kv wr => kv = .int .i64 1 ∧ wr = w2) (fun _ _ => 0)
    case atStart => exact ⟨rfl, rfl⟩
    case round =>
      obtain ⟨rfl, rfl⟩ := hrel
      go_wp2_with fail
      go_ret
      exact OF.out _ B2.out N.out
  | true =>
    obtain ⟨ms, hm, hrow, hlow⟩ : ∃ ms, numsP s.data.toList codW 4 = some ms ∧ w2.ownsRow 0 3 1 v ms.length (ms.map (Value.int .i64)) ∧ ∀ g, v.ownBlock = some g → w.heap.size ≤ g := by
      rcases hb with ⟨_, h⟩ | ⟨h, _⟩
      · exact h
      · cases h
    obtain ⟨n0, n1, n2, n3, rfl⟩ := four_of (nums_len hm)
    have N := hid (show takeP P n s.data.toList = some ⟨P.g, P.pool, P.codes ++ [⟨n0, n1, n2, n3, []⟩]⟩ from TC.out _ hm)
    obtain ⟨g, cap, rfl, _, hg⟩ := hrow.form (by simp)
    have k0 : w2.cell? ⟨g, 0, none⟩ = some (.int .i64 n0) := row_cell hrow rfl
    have k1 : w2.cell? ⟨g, 1, none⟩ = some (.int .i64 n1) := row_cell hrow rfl
    have k2 : w2.cell? ⟨g, 2, none⟩ = some (.int .i64 n2) := row_cell hrow rfl
    have k3 : w2.cell? ⟨g, 3, none⟩ = some (.int .i64 n3) := row_cell hrow rfl
    have e2 : w2.cell? ⟨r, 2, none⟩ = some (.slice ca xs.length cc) := blk_cellZ R2.out.blk 2 rfl
    have hr2 := R2.out.rlt
    have HROW := hid hrow
    have hgr : ¬ g = r := by
      obtain ⟨cur', hc'⟩ := row_lt hrow (g := g) rfl
      exact blk_ne hc' R2.out.blk (by decide)
    have hrg : ¬ r = g := fun e => hgr e.symm
    clear hb hm hrow hlow
    simp only [List.length_cons, List.length_nil, Nat.zero_add]
    go_upto_region 15 with fail
    refine wp_region_held_drew (S := fun aZ => aZ.cell? ⟨g, 0, none⟩ = some (.int .i64 n0) ∧ aZ.cell? ⟨g, 1, none⟩ = some (.int .i64 n1) ∧ aZ.cell? ⟨g, 2, none⟩ = some (.int .i64 n2) ∧ aZ.cell? ⟨g, 3, none⟩ = some (.int .i64 n3)) (by kernel_rfl) ?_ (fun hHeld => ?_)
    · (refine ⟨?_, ?_, ?_, ?_⟩ <;> go_simp)
    refine tkk 0 ?_
    refine tkk 1 ?_
    refine tkk 2 ?_
    refine tkk 3 ?_
    refine tkk 5 ?_
    refine tkk 6 ?_
    refine tkk 7 ?_
    refine tkk 8 ?_
    refine tkk 9 ?_
    refine tkk 10 ?_
    refine tkk 11 ?_
    refine tkk 12 ?_
    refine tkk 13 ?_
    refine tkk 14 ?_
    refine tkk 15 ?_
    refine tkk 16 ?_
    refine tkk 17 ?_
    refine wpAnyH_ready (rs := [4, 18]) (by kernel_rfl) (by simp) ?_
    refine AllReadyH.cons rfl (fun K hK => ?_) (AllReadyH.cons rfl (fun K hK => ?_) AllReadyH.nil)
    go_simp
    refine hK.out _ _ ?_ (fun _ => ?_)
    · (refine ⟨?_, ?_, ?_, ?_⟩ <;> (first | assumption | go_simp))
    clear hK K
    refine rdy 18 (fun K hK => ?_)
    go_simp
    refine hK.out _ _ ?_ (fun _ => ?_)
    · (refine ⟨?_, ?_, ?_, ?_⟩ <;> (first | assumption | go_simp))
    clear hK K
    rotate_left 1
    go_simp
    refine hK.out _ _ ?_ (fun _ => ?_)
    · (refine ⟨?_, ?_, ?_, ?_⟩ <;> (first | assumption | go_simp))
    clear hK K
    refine rdy 4 (fun K hK => ?_)
    go_simp
    refine hK.out _ _ ?_ (fun _ => ?_)
    · (refine ⟨?_, ?_, ?_, ?_⟩ <;> (first | assumption | go_simp))
    clear hK K
    rotate_left 1
    all_goals
      refine rdy 19 (fun K hK => ?_)
      refine row_app_step elCd (by decide) (by decide) rfl _ _ rfl xs.length (cdC xs) [.int .i64 n0, .int .i64 n1, .int .i64 n2, .int .i64 n3, .slice none 0 0] rfl (by intro u hu; simp at hu; rcases hu with rfl | rfl | rfl | rfl | rfl <;> rfl) (.slice ca xs.length cc) (by rfl) R2.out.codes w2.heap.size (by rfl) rfl hx (.inr (.inr rfl)) ?_
      intro g' cp w4 hown hgrow hat
      have hn' : ¬ (Value.slice ca xs.length cc).ownBlock = some r := fun e => by
        obtain ⟨cur, hc⟩ := row_lt R2.out.codes e
        exact blk_ne hc R2.out.blk (by decide) rfl
      have hng : ¬ (Value.slice ca xs.length cc).ownBlock = some g := fun e => by
        obtain ⟨cur, hc⟩ := row_lt R2.out.codes e
        obtain ⟨cur', hc'⟩ := row_lt HROW.out (g := g) rfl
        exact blk_ne hc hc' (by decide) rfl
      have q0 : w4.cell? ⟨r, 2, none⟩ = some (.slice ca xs.length cc) := (hgrow.cell_far ⟨r, 2, none⟩ hr2 (fun e => hn' e.symm)).trans e2
      have q1 : w4.frozen? ⟨r, 2, none⟩ = false := (hgrow.frozen_far ⟨r, 2, none⟩ hr2 (fun e => hn' e.symm)).trans (blk_free R2.out.blk 2)
      have HR4 := hid (R2.out.cod (p := n0) (l := n1) (s := n2) (d := n3) hB2 hown hgrow hat)
      have K4 := hid (B2.out.trans (((Keep.grown (S := fun b => B ≤ b) hgrow (fun k hk => R2.out.clow k hk)).trans (Keep.set (S := fun b => B ≤ b) R2.out.low w4 2 (.slice (some ⟨g', 0, none⟩) (xs.length + 1) cp)) (fun _ _ h => h)).below hB2 (fun _ h => h)))
      have u0 : w4.cell? ⟨g, 0, none⟩ = some (.int .i64 n0) := (hgrow.cell_far ⟨g, 0, none⟩ hg (fun e => hng e.symm)).trans k0
      have u1 : w4.cell? ⟨g, 1, none⟩ = some (.int .i64 n1) := (hgrow.cell_far ⟨g, 1, none⟩ hg (fun e => hng e.symm)).trans k1
      have u2 : w4.cell? ⟨g, 2, none⟩ = some (.int .i64 n2) := (hgrow.cell_far ⟨g, 2, none⟩ hg (fun e => hng e.symm)).trans k2
      have u3 : w4.cell? ⟨g, 3, none⟩ = some (.int .i64 n3) := (hgrow.cell_far ⟨g, 3, none⟩ hg (fun e => hng e.symm)).trans k3
      clear hown hgrow hat hn' hng e2 k0 k1 k2 k3
      refine hK.out _ _ ?_ (fun _ => ?_)
      · (refine ⟨?_, ?_, ?_, ?_⟩ <;> (first | assumption | go_simp))
      clear hK K
      simp only [Act.put, List.setIfInBounds_toArray, List.set_cons_zero, List.set_cons_succ, List.getElem_toArray, List.getElem_cons_succ, List.getElem_cons_zero]
      refine tkk 20 ?_
      refine tkk 21 ?_
      refine rdy 22 (fun K hK => ?_)
      go_simp
      refine hK.out _ _ ?_ (fun _ => ?_)
      · (refine ⟨?_, ?_, ?_, ?_⟩ <;> (first | assumption | go_simp))
      clear hK K
      refine wpAnyH_done (by kernel_rfl) ?_ _
      go_wp2_with fail
      go_ret
      exact OT.out _ _ _ _ _ (by first | exact K4.out | exact K4.out.drew) N.out (by first | exact HR4.out | exact HR4.out.on ((Below.refl _ _).drew))
set_option maxHeartbeats 6400000 in
theorem dtake_other {B r n : Nat} {P : Pg} {pv cv : Value} {xs : List Cv} (s : ByteArray) (w : World) (hB : B ≤ w.heap.size) (h : Hid (DrB B r P pv cv xs w)) (hs : s.size ≤ 900000) (hn : Hid (n ≠ 0)) (hc : Hid (P.codes = [])) (hlen : 5 < s.size) (hpw : Hid (s.data.toList.take 5 ≠ polW)) (hx : xs.length ≤ 1000000) :
    Calls Tryz.prog 25 #[.pointer (some ⟨r, 0, none⟩), .string s, .int .i64 (n : Int)] w (TkOut B r n P s.data.toList w) := by
  have OT := hid (show ∀ W Q pv cv xs, Below B w W → takeP P n s.data.toList = some Q → DrB B r Q pv cv xs W → TkOut B r n P s.data.toList w (.returned (.bool true)) W from fun W Q pv cv xs h1 h2 h3 => ⟨true, rfl, h1, .inl ⟨rfl, Q, pv, cv, xs, h2, h3⟩⟩)
  have OF := hid (show ∀ W, Below B w W → takeP P n s.data.toList = none → TkOut B r n P s.data.toList w (.returned (.bool false)) W from fun W h1 h2 => ⟨false, rfl, h1, .inr ⟨rfl, h2⟩⟩)
  have TC := hid (fun m (hm : numsP s.data.toList codW 4 = some m) => takeP_code (P := P) hn.out (fun _ h5 => by rw [pool_word h5] at hm; cases hm) hm)
  have hne : ((n : Int) == 0) = false := beq_eq_false_iff_ne.2 (by have := hn.out; omega)
  obtain ⟨ca, cc, rfl⟩ := row_shape h.out.codes
  have hxl : xs.length = P.codes.length := by
    have := congrArg List.length h.out.fst
    rwa [List.length_map] at this
  have k2 : w.cell? ⟨r, 2, none⟩ = some (.slice ca xs.length cc) := blk_cellZ h.out.blk 2 rfl
  have hx0 : ((xs.length : Int) == 0) = true := by rw [hxl, hc.out]; rfl
  have hx1 : decide ((xs.length : Int) > 0) = false := decide_eq_false (by rw [hxl, hc.out]; decide)
  have hx2 : ¬ (0 < xs.length) := by rw [hxl, hc.out]; decide
  have hgt : decide ((s.size : Int) > 5) = true := decide_eq_true (by omega)
  have h5s : 5 ≤ s.size := by omega
  have h5i : (5 : Int) ≤ (s.size : Int) := by omega
  have h5' : ((s.extract 0 5).toList == [112, 111, 111, 108, 32]) = false := by rw [Lib.toList_data, extract_head]; simpa [polW] using hpw.out
  replace hpw := hid (show 5 < s.data.toList.length → s.data.toList.take 5 ≠ polW from fun _ => hpw.out)
  clear hxl
  go_enter Tryz.func25, Tryz.ntmps25
  go_wp2_with fail
  refine (dnumbers_calls s ⟨#[99, 111, 100, 101]⟩ 4 w hs (by decide)).mono ?_
  rintro e w2 ⟨⟨v, b, rfl, hb⟩, b2⟩
  have B2 := hid (b2.mono hB)
  have R2 := hid (h.out.on b2)
  have hB2 : B ≤ w2.heap.size := Nat.le_trans hB b2.size
  clear b2 k2
  cases b with
  | false =>
    have hN : numsP s.data.toList codW 4 = none := by
      rcases hb with ⟨h, _⟩ | ⟨_, h⟩
      · cases h
      · exact h
    have N := hid (takeP_none hn.out hc.out hpw.out hN)
    clear hb hN
    go_wp2_with fail
    go_loopw [15] (fun kv wr => kv = .int .i64 1 ∧ wr = w2) (fun _ _ => 0)
    case atStart => exact ⟨rfl, rfl⟩
    case round =>
      obtain ⟨rfl, rfl⟩ := hrel
      go_wp2_with fail
      go_ret
      exact OF.out _ B2.out N.out
  | true =>
    obtain ⟨ms, hm, hrow, hlow⟩ : ∃ ms, numsP s.data.toList codW 4 = some ms ∧ w2.ownsRow 0 3 1 v ms.length (ms.map (Value.int .i64)) ∧ ∀ g, v.ownBlock = some g → w.heap.size ≤ g := by
      rcases hb with ⟨_, h⟩ | ⟨h, _⟩
      · exact h
      · cases h
    obtain ⟨n0, n1, n2, n3, rfl⟩ := four_of (nums_len hm)
    have N := hid (show takeP P n s.data.toList = some ⟨P.g, P.pool, P.codes ++ [⟨n0, n1, n2, n3, []⟩]⟩ from TC.out _ hm)
    obtain ⟨g, cap, rfl, _, hg⟩ := hrow.form (by simp)
    have k0 : w2.cell? ⟨g, 0, none⟩ = some (.int .i64 n0) := row_cell hrow rfl
    have k1 : w2.cell? ⟨g, 1, none⟩ = some (.int .i64 n1) := row_cell hrow rfl
    have k2 : w2.cell? ⟨g, 2, none⟩ = some (.int .i64 n2) := row_cell hrow rfl
    have k3 : w2.cell? ⟨g, 3, none⟩ = some (.int .i64 n3) := row_cell hrow rfl
    have e2 : w2.cell? ⟨r, 2, none⟩ = some (.slice ca xs.length cc) := blk_cellZ R2.out.blk 2 rfl
    have hr2 := R2.out.rlt
    have HROW := hid hrow
    have hgr : ¬ g = r := by
      obtain ⟨cur', hc'⟩ := row_lt hrow (g := g) rfl
      exact blk_ne hc' R2.out.blk (by decide)
    have hrg : ¬ r = g := fun e => hgr e.symm
    clear hb hm hrow hlow
    simp only [List.length_cons, List.length_nil, Nat.zero_add]
    go_upto_region 15 with fail
    refine wp_region_held_drew (S := fun aZ => aZ.cell? ⟨g, 0, none⟩ = some (.int .i64 n0) ∧ aZ.cell? ⟨g, 1, none⟩ = some (.int .i64 n1) ∧ aZ.cell? ⟨g, 2, none⟩ = some (.int .i64 n2) ∧ aZ.cell? ⟨g, 3, none⟩ = some (.int .i64 n3)) (by kernel_rfl) ?_ (fun hHeld => ?_)
    · (refine ⟨?_, ?_, ?_, ?_⟩ <;> go_simp)
    refine tkk 0 ?_
    refine tkk 1 ?_
    refine tkk 2 ?_
    refine tkk 3 ?_
    refine tkk 5 ?_
    refine tkk 6 ?_
    refine tkk 7 ?_
    refine tkk 8 ?_
    refine tkk 9 ?_
    refine tkk 10 ?_
    refine tkk 11 ?_
    refine tkk 12 ?_
    refine tkk 13 ?_
    refine tkk 14 ?_
    refine tkk 15 ?_
    refine tkk 16 ?_
    refine tkk 17 ?_
    refine wpAnyH_ready (rs := [4, 18]) (by kernel_rfl) (by simp) ?_
    refine AllReadyH.cons rfl (fun K hK => ?_) (AllReadyH.cons rfl (fun K hK => ?_) AllReadyH.nil)
    go_simp
    refine hK.out _ _ ?_ (fun _ => ?_)
    · (refine ⟨?_, ?_, ?_, ?_⟩ <;> (first | assumption | go_simp))
    clear hK K
    refine rdy 18 (fun K hK => ?_)
    go_simp
    refine hK.out _ _ ?_ (fun _ => ?_)
    · (refine ⟨?_, ?_, ?_, ?_⟩ <;> (first | assumption | go_simp))
    clear hK K
    rotate_left 1
    go_simp
    refine hK.out _ _ ?_ (fun _ => ?_)
    · (refine ⟨?_, ?_, ?_, ?_⟩ <;> (first | assumption | go_simp))
    clear hK K
    refine rdy 4 (fun K hK => ?_)
    go_simp
    refine hK.out _ _ ?_ (fun _ => ?_)
    · (refine ⟨?_, ?_, ?_, ?_⟩ <;> (first | assumption | go_simp))
    clear hK K
    rotate_left 1
    all_goals
      refine rdy 19 (fun K hK => ?_)
      refine row_app_step elCd (by decide) (by decide) rfl _ _ rfl xs.length (cdC xs) [.int .i64 n0, .int .i64 n1, .int .i64 n2, .int .i64 n3, .slice none 0 0] rfl (by intro u hu; simp at hu; rcases hu with rfl | rfl | rfl | rfl | rfl <;> rfl) (.slice ca xs.length cc) (by rfl) R2.out.codes w2.heap.size (by rfl) rfl hx (.inr (.inr rfl)) ?_
      intro g' cp w4 hown hgrow hat
      have hn' : ¬ (Value.slice ca xs.length cc).ownBlock = some r := fun e => by
        obtain ⟨cur, hc⟩ := row_lt R2.out.codes e
        exact blk_ne hc R2.out.blk (by decide) rfl
      have hng : ¬ (Value.slice ca xs.length cc).ownBlock = some g := fun e => by
        obtain ⟨cur, hc⟩ := row_lt R2.out.codes e
        obtain ⟨cur', hc'⟩ := row_lt HROW.out (g := g) rfl
        exact blk_ne hc hc' (by decide) rfl
      have q0 : w4.cell? ⟨r, 2, none⟩ = some (.slice ca xs.length cc) := (hgrow.cell_far ⟨r, 2, none⟩ hr2 (fun e => hn' e.symm)).trans e2
      have q1 : w4.frozen? ⟨r, 2, none⟩ = false := (hgrow.frozen_far ⟨r, 2, none⟩ hr2 (fun e => hn' e.symm)).trans (blk_free R2.out.blk 2)
      have HR4 := hid (R2.out.cod (p := n0) (l := n1) (s := n2) (d := n3) hB2 hown hgrow hat)
      have K4 := hid (B2.out.trans (((Keep.grown (S := fun b => B ≤ b) hgrow (fun k hk => R2.out.clow k hk)).trans (Keep.set (S := fun b => B ≤ b) R2.out.low w4 2 (.slice (some ⟨g', 0, none⟩) (xs.length + 1) cp)) (fun _ _ h => h)).below hB2 (fun _ h => h)))
      have u0 : w4.cell? ⟨g, 0, none⟩ = some (.int .i64 n0) := (hgrow.cell_far ⟨g, 0, none⟩ hg (fun e => hng e.symm)).trans k0
      have u1 : w4.cell? ⟨g, 1, none⟩ = some (.int .i64 n1) := (hgrow.cell_far ⟨g, 1, none⟩ hg (fun e => hng e.symm)).trans k1
      have u2 : w4.cell? ⟨g, 2, none⟩ = some (.int .i64 n2) := (hgrow.cell_far ⟨g, 2, none⟩ hg (fun e => hng e.symm)).trans k2
      have u3 : w4.cell? ⟨g, 3, none⟩ = some (.int .i64 n3) := (hgrow.cell_far ⟨g, 3, none⟩ hg (fun e => hng e.symm)).trans k3
      clear hown hgrow hat hn' hng e2 k0 k1 k2 k3
      refine hK.out _ _ ?_ (fun _ => ?_)
      · (refine ⟨?_, ?_, ?_, ?_⟩ <;> (first | assumption | go_simp))
      clear hK K
      simp only [Act.put, List.setIfInBounds_toArray, List.set_cons_zero, List.set_cons_succ, List.getElem_toArray, List.getElem_cons_succ, List.getElem_cons_zero]
      refine tkk 20 ?_
      refine tkk 21 ?_
      refine rdy 22 (fun K hK => ?_)
      go_simp
      refine hK.out _ _ ?_ (fun _ => ?_)
      · (refine ⟨?_, ?_, ?_, ?_⟩ <;> (first | assumption | go_simp))
      clear hK K
      refine wpAnyH_done (by kernel_rfl) ?_ _
      go_wp2_with fail
      go_ret
      exact OT.out _ _ _ _ _ (by first | exact K4.out | exact K4.out.drew) N.out (by first | exact HR4.out | exact HR4.out.on ((Below.refl _ _).drew))

end Go.Proofs.YtnojlfdojmkonaaGreatDoor
