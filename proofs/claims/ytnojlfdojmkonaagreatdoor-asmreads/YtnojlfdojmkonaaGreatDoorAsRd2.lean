/- What the program's reader does with an instruction's line. -/
import Derived.Test.YtnojlfdojmkonaaGreatDoorJoint2
import Derived.Test.YtnojlfdojmkonaaGreatDoorAsRd
import Derived.Test.YtnojlfdojmkonaaGreatDoorAsP
namespace Go.Proofs.YtnojlfdojmkonaaGreatDoor
set_option linter.unusedSimpArgs false
set_option maxRecDepth 100000
open Go.RowKit

theorem slice_ptr2 (g k : Nat) (hk : k ≤ 2) (w : World) : (Instr.sliceAt 129 (.pointer (some ⟨g, 0, none⟩)) none (some (.int .i64 (k : Int))) none).run Tryz.prog w = .ok (.slice (some ⟨g, 0, none⟩) k 2) w := by
  have hl : Tryz.prog.arrayLen 129 = 2 := by kernel_rfl
  have hu : Tryz.prog.underlying 129 = some (.array (Tryz.prog.arrayLen 129) (Tryz.prog.elem 129)) := by kernel_rfl
  have hz : (sizeOf (Tryz.prog.elem 129)).run Tryz.prog w = .ok 1 w := by kernel_rfl
  rw [run_sliceAt_array_h w _ _ hu .i64 (k : Int) (by omega) (by rw [hl]; omega), hz]
  simp only [Result.andThen, slicedAt]
  simp [Addr.add, hl]
theorem setM_ins {o : Int} {ns : List Int} {k : Nat} (hk : k ≤ 2) (hn : ns.length = k) : setM #[.int .i64 o, .int .i64 0, .int .i64 0] ([1, 2].take k) ns = #[.int .i64 o, .int .i64 (ns.headD 0), .int .i64 (ns.tail.headD 0)] := by
  match k, hk, ns, hn with
  | 0, _, [], _ => rfl
  | 1, _, [a], _ => rfl
  | 2, _, [a, b], _ => rfl
theorem plc_two {g ib k : Nat} {w : World} (hk : k ≤ 2) (h : Blk g 129 #[.pointer (some ⟨ib, 1, none⟩), .pointer (some ⟨ib, 2, none⟩)] w) (hne : g ≠ ib) : Plc w (.slice (some ⟨g, 0, none⟩) k 2) ib ([1, 2].take k) := by
  refine ⟨g, 2, by simp; omega, blk_lt h, hne, fun i o ho => ?_⟩
  rw [blk_cell h]
  rw [List.getElem?_take] at ho
  split at ho
  · match i, ho with
    | 0, ho => simp at ho; subst ho; rfl
    | 1, ho => simp at ho; subst ho; rfl
    | i + 2, ho => simp at ho
  · cases ho
set_option maxHeartbeats 12800000 in
theorem ainstr_calls {B r g : Nat} {P : Pg} {nv pv cv v iv : Value} {ys : List Cv} {c : Cd} {l : List UInt8} {ss : List ByteArray} (w : World) (hL : Hid (LibW B w)) (h : Hid (RdB B r P nv pv cv (ys ++ [(c, iv)]) w)) (hW : Hid (WordsIn g w v l ss)) (hs : Hid (ss.map (·.data.toList) = wordsL l)) (hl : l.length ≤ 1000000) (hx : ys.length ≤ 1000000) (hci : c.ins.length ≤ 1000000) :
    Calls Tryz.prog 89 #[.pointer (some ⟨r, 0, none⟩), v] w fun e w' => ∃ b, e = .returned (.bool b) ∧ Below B w w' ∧ ((b = true ∧ ∃ x, insR l = some x ∧ ∃ xs', RdB B r ⟨P.g, P.pool, P.codes.dropLast ++ [⟨c.p, c.l, c.s, c.d, c.ins ++ [x]⟩]⟩ nv pv cv xs' w') ∨ (b = false ∧ insR l = none)) := by
  obtain ⟨cs, rfl, hwb, hwl, hw1, hwc⟩ := hW.out
  obtain ⟨s0, rs, rfl, hs0, hrs⟩ := ss_head hs.out
  have SZ := hid (ss_short hs.out hl)
  have hBw := hL.out.le
  have HS0 := hid hs0
  have HRS := hid hrs
  have HW1 := hid hw1
  have HWC := hid hwc
  have HWB := hid hwb
  have hgw := blk_lt hwb
  have NM := hid (named_calls s0 w)
  have c0 : w.cell? ⟨g, 0, none⟩ = some (.string s0) := by rw [blk_cell hwb]; exact hwc 0 s0 rfl
  have hrl : rs.length ≤ 5 := by
    have h1 := (words_ne l).2
    have h2 := congrArg List.length hs.out
    simp only [List.length_map, List.length_cons] at h2
    omega
  have HRL := hid hrl
  clear hs0 hrs hw1 hwc hwb hW hwl hrl
  go_enter Tryz.func89, Tryz.ntmps89
  go_wp2_with fail
  refine NM.out.mono ?_
  rintro e w2 ⟨⟨o, b, rfl, hb⟩, b2⟩
  have B2 := hid b2
  clear b2 c0
  rcases hb with ⟨rfl, ho, hso⟩ | ⟨rfl, hno⟩
  · have HO := hid ho
    have HSO := hid hso
    have hcs : ¬ cs.size = 1 := fun h1 => by
      have h2 := HW1.out h1
      have h3 := HS0.out
      rw [h2, hso] at h3
      exact opW_ne ho h3
    have hsl := fun W => words_tail g (rs.length + 1) cs.size (by omega) hcs W
    have hk2 : prtN o ≤ 2 := by rcases prt_cases o with h | h | h <;> rw [h] <;> decide
    have HK2 := hid hk2
    have NW := hid (nums_words (s := l) (first := opW o) (many := prtN o) (by omega))
    have IR := hid (insR_at ho (show (splitP 32 l).headD [] = opW o by rw [← HS0.out]; exact hso))
    have hsl2 := slice_ptr2 (w2.heap.size + 1) (prtN o) hk2
    have q1 := box_below w2 (.cells #[.int .i64 o, .int .i64 0, .int .i64 0] 67)
    have b1 := blk_new w2 67 #[.int .i64 o, .int .i64 0, .int .i64 0]
    have hz1 : (w2.alloc (.cells #[.int .i64 o, .int .i64 0, .int .i64 0] 67)).heap.size = w2.heap.size + 1 := by simp
    clear ho hso hcs hk2
    simp only [List.length_cons, Nat.add_sub_cancel] at hsl ⊢
    go_wp2_with fail
    generalize hW3 : w2.alloc (.cells #[.int .i64 o, .int .i64 0, .int .i64 0] 67) = w3 at *
    have q2 := box_below w3 (.cells #[.pointer (some ⟨w2.heap.size, 1, none⟩), .pointer (some ⟨w2.heap.size, 2, none⟩)] 129)
    have b2 := blk_new w3 129 #[.pointer (some ⟨w2.heap.size, 1, none⟩), .pointer (some ⟨w2.heap.size, 2, none⟩)]
    generalize hW4 : w3.alloc (.cells #[.pointer (some ⟨w2.heap.size, 1, none⟩), .pointer (some ⟨w2.heap.size, 2, none⟩)] 129) = w4 at *
    have L2 := hid (q1.trans (q2.mono (show w2.heap.size ≤ w3.heap.size by omega)))
    have L4 := hid (B2.out.trans (L2.out.mono B2.out.size))
    have IB4 := hid (blk_on b1 q2)
    have PB4 := hid (plc_two (ib := w2.heap.size) HK2.out b2 (by omega))
    rw [hz1] at PB4
    have HZ1 := hid hz1
    clear hW3 hW4 q1 q2 b1 b2 hz1
    refine wp_region_held_drew (S := fun aZ => True) (by kernel_rfl) ?_ (fun hHeld => ?_)
    · trivial
    refine tkk 0 ?_
    refine tkk 1 ?_
    refine tkk 2 ?_
    refine rdy 3 (fun K hK => ?_)
    go_simp
    refine (aparts_calls o _).mono ?_
    rintro e w5 ⟨rfl, hw5⟩
    have L5 := hid (show Below w4.heap.size w4 w5 by rw [hw5]; first | exact Below.refl _ _ | exact (Below.refl _ _).drew)
    clear hw5
    go_simp
    refine hK.out _ _ trivial (fun _ => ?_)
    clear hK K
    refine tkk 4 ?_
    refine rdy 5 (fun K hK => ?_)
    go_simp
    have LW5 := hid (hL.out.on ((L4.out.trans (L5.out.mono L4.out.size)).mono hBw))
    have ST5 := hid (tail_in (blk_on HWB.out (L4.out.trans (L5.out.mono L4.out.size))) HWC.out rs.length (cs.size - 1) rfl)
    have PB5 := hid (show Plc w5 (.slice (some ⟨w2.heap.size + 1, 0, none⟩) (prtN o) 2) w2.heap.size ([1, 2].take (prtN o)) by
      obtain ⟨pb, cap, e1, e2, e3, e4⟩ := PB4.out
      exact ⟨pb, cap, e1, Nat.lt_of_lt_of_le e2 L5.out.size, e3, fun i o ho => (L5.out.cell (p := ⟨pb, i, none⟩) e2).trans (e4 i o ho)⟩)
    have IB5 := hid (blk_on IB4.out L5.out)
    refine (fill_calls rs ([1, 2].take (prtN o)) w2.heap.size 67 _ _ _ w5 LW5 ST5 PB5 IB5 (Nat.le_trans hBw B2.out.size) (hid (fun ao n c e a ha => by
      injection e with e1
      rw [← e1] at ha
      injection ha with ha
      rw [← ha]
      show g ≠ w2.heap.size
      have := B2.out.size
      omega)) (hid (fun o' ho' => by
      have := List.mem_of_mem_take ho'
      simp at this
      rcases this with rfl | rfl <;> exact ⟨0, rfl⟩)) (hid (fun s hs' => SZ.out s (by simp [hs']))) (by have := HRL.out; omega)).mono ?_
    rintro e w6 ⟨b, rfl, hk, ht, hf⟩
    have L6 := hid ((L4.out.trans (L5.out.mono L4.out.size)).trans (hk.below (B := w.heap.size) (Nat.le_trans L4.out.size L5.out.size) (fun k hk => by rw [hk]; exact B2.out.size)))
    have HT := hid ht
    have HF := hid hf
    clear hk ht hf
    go_simp
    refine hK.out _ _ trivial (fun _ => ?_)
    clear hK K
    refine tkk 6 ?_
    refine wpAnyH_done (by kernel_rfl) ?_ _
    cases b with
    | false =>
      have HN := hid (show insR l = none by
        rw [IR.out, NW.out]
        split
        · rename_i hh
          rcases HF.out rfl with h1 | h1
          · exfalso
            have h2 := hh.2
            rw [← HRS.out, List.length_map] at h2
            rw [List.length_take] at h1
            have := HK2.out
            simp only [List.length_cons, List.length_nil] at h1
            omega
          · rw [← HRS.out, h1]; rfl
        · rfl)
      clear HT HF
      go_wp2_with fail
      go_ret
      exact ⟨false, rfl, by first | exact L6.out.mono hBw | exact (L6.out.mono hBw).drew, .inr ⟨rfl, HN.out⟩⟩
    | true =>
      obtain ⟨ns, hl4, hns, hbk⟩ := HT.out rfl
      have hln := allN_len hns
      rw [List.length_map, hl4, List.length_take] at hln
      have hln2 : ns.length = prtN o := by have := HK2.out; simp only [List.length_cons, List.length_nil] at hln; omega
      rw [setM_ins HK2.out hln2] at hbk
      have HN := hid (show insR l = some (o, ns.headD 0, ns.tail.headD 0) by
        rw [IR.out, NW.out, if_pos ⟨by rw [words_head, ← HS0.out]; exact HSO.out, by rw [← HRS.out, List.length_map, ← hln2]; have := allN_len hns; rw [List.length_map] at this; omega⟩, ← HRS.out, hns]
        rfl)
      generalize ns.headD 0 = n1 at *
      generalize ns.tail.headD 0 = n2 at *
      have IB6 := hid hbk
      have R6 := hid (h.out.on L6.out)
      have hB6 := Nat.le_trans hBw L6.out.size
      clear hl4 hns hbk hln hln2 HT HF
      have hcf := R6.out.codes.form (by simp)
      obtain ⟨q, qc, hcv, _, hqs⟩ := hcf
      rw [List.length_append] at hcv
      simp only [List.length_cons, List.length_nil, Nat.zero_add] at hcv
      subst hcv
      have e2 : w6.cell? ⟨r, 2, none⟩ = some (.slice (some ⟨q, 0, none⟩) (ys.length + 1) qc) := blk_cellZ R6.out.blk 2 rfl
      have hwk : IntKind.i64.wrap (ys.length : Int) = (ys.length : Int) := by rw [IntKind.wrap_i64]; omega
      have hge : (0 : Int) ≤ (ys.length : Int) := by omega
      have hlt : (ys.length : Int) < (ys.length : Int) + 1 := by omega
      go_upto_region 8 with fail
      refine wp_region_held_drew (S := fun aZ => aZ.cell? ⟨r, 2, none⟩ = some (.slice (some ⟨q, 0, none⟩) (ys.length + 1) qc)) (by kernel_rfl) ?_ (fun hHeld => ?_)
      · go_simp
      refine tkk 0 ?_
      refine tkk 1 ?_
      refine tkk 2 ?_
      refine tkk 3 ?_
      refine tkk 4 ?_
      refine tkk 5 ?_
      refine tkk 6 ?_
      refine tkk 7 ?_
      refine tkk 8 ?_
      refine tkk 9 ?_
      refine tkk 10 ?_
      refine tkk 11 ?_
      refine tk 12 (v := .pointer (some ⟨q, ys.length * 5, none⟩)) ?_ ?_
      · (intro w hSw; go_simp <;> (simp [hwk, hge, hlt]))
      refine tkk 13 ?_
      refine wpAnyH_done (by kernel_rfl) ?_ _
      have R7 := hid (R6.out.on ((Below.refl w6.heap.size w6).drew))
      have L7 := hid (L6.out.drew)
      have IB7 := hid (blk_on IB6.out ((Below.refl w6.heap.size w6).drew))
      have hB7 : B ≤ w6.drew.heap.size := hB6
      clear e2 hB6 R6 L6 IB6
      generalize hW7 : w6.drew = w7 at *
      clear hW7 hqs hwk hge hlt
      have hiv := R7.out.ins (c, iv) (by simp)
      simp only at hiv
      obtain ⟨ia, ic, rfl⟩ := row_shape hiv
      have HIV := hid hiv
      obtain ⟨qcur, hqb⟩ := row_lt R7.out.codes (g := q) rfl
      have HQB := hid hqb
      have hq7 := blk_lt hqb
      have e3 : w7.cell? ⟨q, ys.length * 5 + 4, none⟩ = some (.slice ia c.ins.length ic) := by
        have := R7.out.codes
        rw [Nat.mul_comm]
        exact row_cell (by rw [List.length_append] at this; exact this) (cdC_at (l := ys ++ [(c, .slice ia c.ins.length ic)]) (i := ys.length) (x := (c, .slice ia c.ins.length ic)) (by simp)).2.2.2.2
      have k0 : w7.cell? ⟨w2.heap.size, 0, none⟩ = some (.int .i64 o) := blk_cellZ IB7.out 0 rfl
      have k1 : w7.cell? ⟨w2.heap.size, 1, none⟩ = some (.int .i64 n1) := blk_cellZ IB7.out 1 rfl
      have k2 : w7.cell? ⟨w2.heap.size, 2, none⟩ = some (.int .i64 n2) := blk_cellZ IB7.out 2 rfl
      have hi7 := blk_lt IB7.out
      have hqi : ¬ q = w2.heap.size := blk_ne hqb IB7.out (by decide)
      have hqi2 : ¬ w2.heap.size = q := fun e => hqi e.symm
      clear hiv hqb
      go_upto_region 9 with fail
      refine wp_region_held_drew (S := fun aZ => aZ.cell? ⟨w2.heap.size, 0, none⟩ = some (.int .i64 o) ∧ aZ.cell? ⟨w2.heap.size, 1, none⟩ = some (.int .i64 n1) ∧ aZ.cell? ⟨w2.heap.size, 2, none⟩ = some (.int .i64 n2)) (by kernel_rfl) ?_ (fun hHeld => ?_)
      · (refine ⟨?_, ?_, ?_⟩ <;> go_simp)
      refine tkk 0 ?_
      refine tkk 1 ?_
      refine tkk 2 ?_
      refine tkk 3 ?_
      refine tkk 5 ?_
      refine wpAnyH_ready (rs := [4, 6]) (by kernel_rfl) (by simp) ?_
      refine AllReadyH.cons rfl (fun K hK => ?_) (AllReadyH.cons rfl (fun K hK => ?_) AllReadyH.nil)
      go_simp
      refine hK.out _ _ ?_ (fun _ => ?_)
      · (refine ⟨?_, ?_, ?_⟩ <;> (first | assumption | go_simp))
      clear hK K
      refine rdy 6 (fun K hK => ?_)
      go_simp
      refine hK.out _ _ ?_ (fun _ => ?_)
      · (refine ⟨?_, ?_, ?_⟩ <;> (first | assumption | go_simp))
      clear hK K
      rotate_left 1
      go_simp
      refine hK.out _ _ ?_ (fun _ => ?_)
      · (refine ⟨?_, ?_, ?_⟩ <;> (first | assumption | go_simp))
      clear hK K
      refine rdy 4 (fun K hK => ?_)
      go_simp
      refine hK.out _ _ ?_ (fun _ => ?_)
      · (refine ⟨?_, ?_, ?_⟩ <;> (first | assumption | go_simp))
      clear hK K
      rotate_left 1
      all_goals
        refine rdy 7 (fun K hK => ?_)
        refine row_app_step elIn (by decide) (by decide) rfl _ _ rfl c.ins.length (inC c.ins) [.int .i64 o, .int .i64 n1, .int .i64 n2] rfl (by intro u hu; simp at hu; rcases hu with rfl | rfl | rfl <;> rfl) (.slice ia c.ins.length ic) (by rfl) HIV.out w7.heap.size (by rfl) rfl hci (.inr (.inr rfl)) ?_
        intro g' cp w8 hown hgrow hat
        have hn : ¬ (Value.slice ia c.ins.length ic).ownBlock = some q := fun e => by
          obtain ⟨cur, hc⟩ := row_lt HIV.out e
          exact blk_ne hc HQB.out (by decide) rfl
        have K78 := Keep.grown (S := fun b => (Value.slice ia c.ins.length ic).ownBlock = some b) hgrow (fun k hk => hk)
        have IB8 : Blk w2.heap.size 67 #[.int .i64 o, .int .i64 n1, .int .i64 n2] w8 := (K78.block w2.heap.size hi7 (fun e => by
          obtain ⟨cur, hc⟩ := row_lt (h.out.ins (c, .slice ia c.ins.length ic) (by simp)) e
          exact absurd (blk_lt hc) (by have := B2.out.size; omega))).trans IB7.out
        have q0 : w8.cell? ⟨q, ys.length * 5 + 4, none⟩ = some (.slice ia c.ins.length ic) := (hgrow.cell_far ⟨q, ys.length * 5 + 4, none⟩ hq7 (fun e => hn e.symm)).trans e3
        have q1 : w8.frozen? ⟨q, ys.length * 5 + 4, none⟩ = false := (hgrow.frozen_far ⟨q, ys.length * 5 + 4, none⟩ hq7 (fun e => hn e.symm)).trans (blk_free HQB.out _)
        have HR8 := R7.out.one (x := (o, n1, n2)) hB7 hown hgrow hat
        rw [Nat.mul_comm 5] at HR8
        have HR8 := hid HR8
        have K8 := hid ((L7.out.mono hBw).trans (((Keep.grown (S := fun b => B ≤ b) hgrow (fun k hk => R7.out.ilow _ (List.mem_append_right _ (List.mem_singleton.2 rfl)) k hk)).trans (Keep.set (S := fun b => B ≤ b) (R7.out.clow q rfl) w8 (ys.length * 5 + 4) (.slice (some ⟨g', 0, none⟩) (c.ins.length + 1) cp)) (fun _ _ h => h)).below hB7 (fun _ h => h)))
        have u0 : w8.cell? ⟨w2.heap.size, 0, none⟩ = some (.int .i64 o) := blk_cellZ IB8 0 rfl
        have u1 : w8.cell? ⟨w2.heap.size, 1, none⟩ = some (.int .i64 n1) := blk_cellZ IB8 1 rfl
        have u2 : w8.cell? ⟨w2.heap.size, 2, none⟩ = some (.int .i64 n2) := blk_cellZ IB8 2 rfl
        clear hown hgrow hat hn K78 IB8 e3 k0 k1 k2
        refine hK.out _ _ ?_ (fun _ => ?_)
        · (refine ⟨?_, ?_, ?_⟩ <;> (first | assumption | go_simp))
        clear hK K
        simp only [Act.put, List.setIfInBounds_toArray, List.set_cons_zero, List.set_cons_succ, List.getElem_toArray, List.getElem_cons_succ, List.getElem_cons_zero]
        refine tkk 8 ?_
        refine tkk 9 ?_
        refine rdy 10 (fun K hK => ?_)
        go_simp
        refine hK.out _ _ ?_ (fun _ => ?_)
        · (refine ⟨?_, ?_, ?_⟩ <;> (first | assumption | go_simp))
        clear hK K
        refine wpAnyH_done (by kernel_rfl) ?_ _
        go_wp2_with fail
        go_ret
        exact ⟨true, rfl, by first | exact K8.out | exact K8.out.drew, .inl ⟨rfl, _, HN.out, _, by first | exact HR8.out | exact HR8.out.on ((Below.refl _ _).drew)⟩⟩
  · have HN := hid (show insR l = none from insR_no (fun o ho => by rw [← HS0.out]; exact hno o ho))
    clear hno
    go_wp2_with fail
    go_ret
    exact ⟨false, rfl, B2.out.mono hBw, .inr ⟨rfl, HN.out⟩⟩

end Go.Proofs.YtnojlfdojmkonaaGreatDoor
