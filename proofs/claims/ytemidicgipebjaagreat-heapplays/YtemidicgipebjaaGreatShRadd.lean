/- The document's Root and Add. -/
import Derived.Test.YtemidicgipebjaaGreatJoint2
import Derived.Test.YtemidicgipebjaaGreatShRof
namespace Go.Proofs.YtemidicgipebjaaGreat
set_option linter.unusedSimpArgs false
open Go.RowKit

theorem rroot_calls {S : Nat → Prop} {r M : Nat} {L : List Sh} (w : World) (h : RfS S r M L w) (wf : WfS M L) (p : Int) :
    Calls Tryz.prog 71 #[.pointer (some ⟨r, 0, none⟩), .int .i64 p] w fun e w' => e = .returned (.int .i64 (rootN M L p : Int)) ∧ RfS (Up S w) r M (rootL M L p) w' ∧ Keep S w w' ∧ KeepI w w' := by
  by_cases hn : p < 0
  · rw [show rootN M L p = 0 from by unfold rootN; rw [if_pos hn], show rootL M L p = L from by unfold rootL; rw [if_pos hn]]
    have R := hid (show RfS (Up S w) r M L w from h.mono (fun b _ hb => .inl hb))
    clear h
    go_enter Tryz.func71, Tryz.ntmps71
    go_wp2_with fail
    go_ret
    exact ⟨rfl, R.out, Keep.refl _ _, fun _ _ h => h⟩
  · rw [show rootN M L p = ofN M L (p, []) from by unfold rootN; rw [if_neg hn], show rootL M L p = ofL M L (p, []) from by unfold rootL; rw [if_neg hn]]
    have HR := hid (srof_calls (no := none) (nc := 0) (ns := []) w h wf p ⟨World.ownsRow_nil _ _ _ _, fun _ => rfl⟩ (fun g hg => by simp [Value.ownBlock] at hg) (by simp))
    clear h
    go_enter Tryz.func71, Tryz.ntmps71
    go_wp2_with fail
    refine HR.out.mono ?_
    rintro e2 w2 ⟨rfl, R2⟩
    have R := hid R2
    clear R2
    go_wp2_with fail
    go_ret
    exact ⟨rfl, R.out⟩
theorem elI : Elem 125 3 1 8 := elem_of (z0 := .int .i64 0) (by kernel_rfl) (by kernel_rfl) rfl
/-- append([]int{}, names...) -/
theorem app_copy {ops : Array Oper} {rest : List Oper} {o : Oper} {a : Act} {Q : Exit → Act → World → Prop} {w : World} (hgd : o.guard = none) (s x : Operand)
    (ho : o.op = .call { callee := .builtin .append, args := #[s, x], argTypes := #[125, 125] }) (b : Nat) (hs : a.eval s = .slice (some ⟨b, 0, none⟩) 0 0) (hb : Blk b 3 #[] w)
    (no : Option Addr) (nc : Nat) (ns : List Int) (hx : a.eval x = .slice no ns.length nc) (hn : namesOf (.slice no ns.length nc) ns w) (hl : ns.length ≤ 100)
    (hK : ∀ vo vc w', w'.ownsRow 0 3 1 (.slice vo ns.length vc) ns.length (ns.map (Value.int .i64)) → (∀ g, (Value.slice vo ns.length vc).ownBlock = some g → g = b ∨ w.heap.size ≤ g) → w.grownBy w' (some b) → wpList Tryz.prog ops Q rest (a.put o.dst (.slice vo ns.length vc)) w') : wpList Tryz.prog ops Q (o :: rest) a w := by
  obtain ⟨hu, i0, z0, hi, hz0, hzc, hz1, hz2⟩ := elI
  have hown : w.ownsRow 0 3 1 (.slice (some ⟨b, 0, none⟩) 0 0) 0 [] := ⟨rfl, .inr ⟨b, 0, #[], rfl, Nat.zero_le _, hb, Nat.le_refl _, Nat.zero_le _, rfl, rfl⟩⟩
  refine wpList_plain hgd fun _ hK' => ?_
  by_cases hns : ns = []
  · subst hns
    have e := hn.2 rfl
    have hr := run_append_owned_none (P := Tryz.prog) w 0 125 o.type 3 i0 1 hu hi (.slice (some ⟨b, 0, none⟩) 0 0) 0 [] hown
    unfold Oper.wp execOp
    rw [e] at hx
    simp only [ho, resolve, invoke, builtin, Sem.run_bind, Sem.run_pure, Result.andThen_ok, List.map_toArray, List.map_cons, List.map_nil, hs, hx, hr]
    exact hK' _ _ (hK (some ⟨b, 0, none⟩) 0 w hown (fun g hg => .inl (by simpa [Value.ownBlock] using hg.symm)) ⟨rfl, rfl, rfl, Nat.le_refl _, fun _ _ _ => rfl⟩)
  · obtain ⟨nb, cp, e, _, _⟩ := hn.1.form (List.length_pos_iff.2 hns)
    injection e with e1 e2 e3
    subst e1 e3
    obtain ⟨v', w', hr, r1, r2, _, r4⟩ := run_append_own_at (P := Tryz.prog) w 0 125 o.type 3 i0 z0 1 8 hu hi hz0 hz1 hz2 hzc (by decide) (.slice (some ⟨b, 0, none⟩) 0 0) 0 [] hown ⟨nb, 0, none⟩ ns.length nc (ns.map (Value.int .i64)) (by simp) (fun j u hu => by
      have h1 := row_cell hn.1 hu
      have hadd : (⟨nb, 0, none⟩ : Addr).add j = ⟨nb, j, none⟩ := by unfold Addr.add; split <;> simp_all
      rw [hadd]; exact h1) (fun u hu => by
      obtain ⟨x, _, rfl⟩ := List.mem_map.1 hu
      rfl) (by unfold maxLen; omega) (by omega) (Nat.zero_le _)
    rw [Nat.zero_add, List.nil_append] at r1
    obtain ⟨vo, vc, rfl⟩ := row_shape r1
    unfold Oper.wp execOp
    simp only [ho, resolve, invoke, builtin, Sem.run_bind, Sem.run_pure, Result.andThen_ok, List.map_toArray, List.map_cons, List.map_nil, hs, hx, hr]
    refine hK' _ _ (hK vo vc w' r1 (fun g hg => ?_) r2)
    rcases r4 with h | h
    · rw [hg] at h
      exact .inl (by simpa [Value.ownBlock] using h)
    · rw [hg] at h
      exact .inr (by have := Option.some.inj h; omega)
set_option maxRecDepth 100000 in
set_option maxHeartbeats 4000000 in
theorem radd_calls {S : Nat → Prop} {r M : Nat} {L : List Sh} (w : World) (h : RfS S r M L w) (wf : WfS M L) (id x : Int) :
    Calls Tryz.prog 80 #[.pointer (some ⟨r, 0, none⟩), .int .i64 id, .int .i64 x] w fun e w' => e = .returned (.int .i64 (addN M L id x : Int)) ∧ RfS (Up S w) r M (addL M L id x) w' ∧ Keep S w w' ∧ KeepI w w' := by
  have HH := hid (rhas_calls w h id)
  have R := hid (show RfS (Up S w) r M L w from h.mono (fun b _ hb => .inl hb))
  have hl150 : L.length ≤ 150 := by have h1 := wf.len; have h2 := wf.most; omega
  cases hg : getS L id with
  | none =>
    rw [show addN M L id x = 0 from by unfold addN; rw [hg], show addL M L id x = L from by unfold addL; rw [hg]]
    rw [hg] at HH
    clear h
    go_enter Tryz.func80, Tryz.ntmps80
    go_wp2_with fail
    refine HH.out.mono ?_
    rintro e1 w1 ⟨rfl, rfl⟩
    go_wp2_with fail
    go_ret
    exact ⟨rfl, R.out, Keep.refl _ _, fun _ _ h => h⟩
  | some s =>
    rw [hg] at HH
    obtain ⟨i, rfl, hi⟩ := getS_some hg
    rw [addN_at x hi, addL_at x hi]
    obtain ⟨g, cap, no, nc, c0, hgl, c1, c2, c3, c4⟩ := h.at' hi
    have HSl := hid (rslot_calls w h hl150 wf.few ((i + 1 : Nat) : Int) x)
    rw [show slotF L ((i + 1 : Nat) : Int) x = slotS s.2 x from by unfold slotF; rw [hg]] at HSl
    have hil := lt_of_get hi
    have H := hid h
    have HW := hid wf
    have hrl := h.lt
    have HI := hid hi
    by_cases h12 : 12 ≤ s.2.length
    · rw [if_pos (.inl h12), if_pos (.inl h12)]
      have d1 : decide ((12 : Int) ≤ (s.2.length : Int)) = true := decide_eq_true (by omega)
      clear h wf hg c3 c4 hi
      go_enter Tryz.func80, Tryz.ntmps80
      go_wp2_with fail
      refine HH.out.mono ?_
      rintro e1 w1 ⟨rfl, rfl⟩
      go_wp2_with fail
      go_ret
      exact ⟨rfl, R.out, Keep.refl _ _, fun _ _ h => h⟩
    · have d1 : decide ((12 : Int) ≤ (s.2.length : Int)) = false := decide_eq_false (by omega)
      by_cases hxm : x ∈ s.2
      · rw [if_pos (.inr hxm), if_pos (.inr hxm)]
        have d2 : decide (0 ≤ slotS s.2 x) = true := decide_eq_true (slotS_in hxm)
        generalize slotS s.2 x = sl at *
        clear h wf hg c3 c4 hi
        go_enter Tryz.func80, Tryz.ntmps80
        go_wp2_with fail
        refine HH.out.mono ?_
        rintro e1 w1 ⟨rfl, rfl⟩
        go_wp2_with fail
        refine HSl.out.mono ?_
        rintro e1 w2 ⟨rfl, rfl⟩
        go_wp2_with fail
        go_ret
        exact ⟨rfl, R.out, Keep.refl _ _, fun _ _ h => h⟩
      · rw [if_neg (by intro e; rcases e with e | e; exact h12 e; exact hxm e), if_neg (by intro e; rcases e with e | e; exact h12 e; exact hxm e)]
        rw [slotS_none hxm] at HSl
        obtain ⟨p, ns⟩ := s
        dsimp only at *
        have hfew := wf.few i _ hi
        dsimp only at hfew
        have HC3 := hid c3
        have A0 : Below w.heap.size w (w.alloc (.cells #[] 3)) := (Below.refl _ w).alloc (Nat.le_refl _) _
        have HA0 := hid A0
        have BN := hid (blk_new w 3 #[])
        have HC3A := hid (show namesOf (.slice no ns.length nc) ns (w.alloc (.cells #[] 3)) from ⟨row_keep c3.1 (fun gg hgg => A0.block gg (row_new c3.1 hgg).2), c3.2⟩)
        clear h wf hg c3 c4 hi hxm A0 h12
        go_enter Tryz.func80, Tryz.ntmps80
        go_wp2_with fail
        refine HH.out.mono ?_
        rintro e1 w1 ⟨rfl, rfl⟩
        go_wp2_with fail
        refine HSl.out.mono ?_
        rintro e1 w2 ⟨rfl, rfl⟩
        go_wp2_with (first | (at_builtin; refine app_copy rfl _ _ rfl w2.heap.size rfl BN.out no nc ns rfl HC3A.out (by omega) ?_; intro vo vc w3 r3 n3 g3; have R3 := hid r3; have N3 := hid n3; have B3 := hid (HA0.out.trans (show Below w2.heap.size _ w3 from ⟨g3.os, g3.tape, g3.output, g3.size, fun k hk => g3.block k (by simp; omega) (fun e => by have := Option.some.inj e; omega)⟩)); clear r3 n3 g3) | fail)
        have c03 : w3.cell? ⟨r, 0, none⟩ = some (.slice (some ⟨g, 0, none⟩) L.length cap) := (B3.out.cell (p := ⟨r, 0, none⟩) hrl).trans c0
        have c13 : w3.cell? ⟨g, i * 2, none⟩ = some (.int .i64 p) := (B3.out.cell (p := ⟨g, i * 2, none⟩) hgl).trans c1
        have hr3 : r < w3.heap.size := Nat.lt_of_lt_of_le hrl B3.out.size
        have hg3 : g < w3.heap.size := Nat.lt_of_lt_of_le hgl B3.out.size
        have hz3 : w2.heap.size ≤ w3.heap.size := B3.out.size
        have N4 := hid (show ∀ b, (Value.slice vo ns.length vc).ownBlock = some b → w2.heap.size ≤ b from fun b hb => by
          rcases N3.out b hb with h | h
          · omega
          · simp at h; omega)
        have hnr : (Value.slice vo ns.length vc).ownBlock ≠ some r := fun e => by have := N4.out r e; omega
        have hng : (Value.slice vo ns.length vc).ownBlock ≠ some g := fun e => by have := N4.out g e; omega
        have HNR := hid hnr
        have HNG := hid hng
        have HEND := hid (show ∀ gg cp w5, w5.ownsRow 0 3 1 (.slice (some ⟨gg, 0, none⟩) (ns.length + 1) cp) (ns.length + 1) (ns.map (Value.int .i64) ++ [.int .i64 x]) → w3.grownBy w5 (Value.slice vo ns.length vc).ownBlock → ((Value.slice vo ns.length vc).ownBlock = some gg ∨ w3.heap.size ≤ gg) →
            w5.cell? ⟨r, 0, none⟩ = some (.slice (some ⟨g, 0, none⟩) L.length cap) ∧ w5.cell? ⟨g, i * 2, none⟩ = some (.int .i64 p) ∧ g < w5.heap.size ∧
            Calls Tryz.prog 104 #[.pointer (some ⟨r, 0, none⟩), .agg #[.int .i64 p, .slice (some ⟨gg, 0, none⟩) (ns.length + 1) cp]] w5 fun e w' => e = .returned (.int .i64 (ofN M L (p, ns ++ [x]) : Int)) ∧ RfS (Up S w2) r M (ofL M L (p, ns ++ [x])) w' ∧ Keep S w2 w' ∧ KeepI w2 w' from by
          intro gg cp w5 q1 q2 q3
          have B5 : Below w2.heap.size w2 w5 := B3.out.trans ⟨q2.os, q2.tape, q2.output, q2.size, fun k hk => q2.block k (by omega) (fun e => by have := N4.out k e.symm; omega)⟩
          refine ⟨(q2.cell_far ⟨r, 0, none⟩ hr3 (fun e => HNR.out e.symm)).trans c03, (q2.cell_far ⟨g, i * 2, none⟩ hg3 (fun e => HNG.out e.symm)).trans c13, Nat.lt_of_lt_of_le hg3 q2.size, ?_⟩
          have hgg : w2.heap.size ≤ gg := by
            rcases q3 with h | h
            · exact N4.out gg h
            · omega
          have hgS : ∀ b, (Value.slice (some ⟨gg, 0, none⟩) (ns ++ [x]).length cp).ownBlock = some b → Up (Up S w2) w5 b := fun b hb => by
            have e : gg = b := by simpa [Value.ownBlock] using hb
            exact .inl (.inr (by omega))
          have HOf := srof_calls (S := Up S w2) (no := some ⟨gg, 0, none⟩) (nc := cp) (ns := ns ++ [x]) w5 ((H.out.on B5).mono (fun b _ hb => .inl hb)) HW.out p ⟨by simpa using q1, fun e => by simp at e⟩ hgS (by simp; omega)
          rw [show (ns ++ [x]).length = ns.length + 1 by simp] at HOf
          refine HOf.mono ?_
          rintro e6 w6 ⟨he, h1, h2, h3⟩
          refine ⟨he, h1.mono (fun b _ hb => ?_), (Keep.of (S := S) B5).trans h2 (fun b hb e => ?_), (keepI_on B5).trans h3⟩
          · rcases hb with (hb | hb) | hb
            · exact .inl hb
            · exact .inr hb
            · exact .inr (Nat.le_trans B5.size hb)
          · rcases e with e | e
            · exact e
            · omega)
        have h6 : IntKind.i64.wrap (i : Int) = (i : Int) := by rw [IntKind.wrap_i64]; omega
        clear HH HSl c2 HC3 HC3A BN HA0 R hnr hng N3
        go_wp2_with fail
        refine wp_region_held_drew (S := fun _ => True) (by kernel_rfl) trivial (fun hHeld => ?_)
        refine tkk 0 ?_
        refine tkk 1 ?_
        refine tkk 2 ?_
        refine tkk 3 ?_
        refine tkk 5 ?_
        refine tk 6 (v := .int .i64 (i : Int)) ?_ ?_
        · (intro w hSw; go_simp <;> first | exact h6 | (simp only [h6]))
        refine tkk 10 ?_
        refine tkk 11 ?_
        refine wpAnyH_ready (rs := [4, 12]) (by kernel_rfl) (by simp) ?_
        refine AllReadyH.cons rfl (fun K hK => ?_) (AllReadyH.cons rfl (fun K hK => ?_) AllReadyH.nil)
        · go_simp
          refine hK.out _ _ trivial (fun _ => ?_)
          clear hK K
          refine tkk 7 ?_
          refine tkk 8 ?_
          refine wpAnyH_ready (rs := [9, 12]) (by kernel_rfl) (by simp) ?_
          refine AllReadyH.cons rfl (fun K hK => ?_) (AllReadyH.cons rfl (fun K hK => ?_) AllReadyH.nil)
          · go_simp
            refine hK.out _ _ trivial (fun _ => ?_)
            clear hK K
            refine rdy 12 (fun K hK => ?_)
            go_simp
            refine hK.out _ _ trivial (fun _ => ?_)
            clear hK K
            refine rdy 13 (fun K hK => ?_)
            refine row_app_step elI (by decide) (by decide) rfl _ _ rfl ns.length (ns.map (Value.int .i64)) [.int .i64 x] rfl (by intro u hu; simp at hu; subst hu; rfl) (.slice vo ns.length vc) (by rfl) R3.out w3.heap.size (by rfl) rfl (by omega) (.inr (.inr rfl)) ?_
            intro gg cp w5 hown hgrow hat
            have EN := hid (HEND.out gg cp w5 hown hgrow hat)
            have v0 := EN.out.1
            have v1 := EN.out.2.1
            have v2 := EN.out.2.2.1
            refine hK.out _ _ trivial (fun _ => ?_)
            clear hK K hown hgrow hat
            simp only [Act.put, List.setIfInBounds_toArray, List.set_cons_zero, List.set_cons_succ, List.getElem_toArray, List.getElem_cons_succ, List.getElem_cons_zero]
            refine tkk 14 ?_
            refine rdy 15 (fun K hK => ?_)
            go_simp
            refine EN.out.2.2.2.mono ?_
            rintro e6 w6 ⟨rfl, R6⟩
            have RR := hid R6
            go_simp
            refine hK.out _ _ trivial (fun _ => ?_)
            clear hK K R6
            refine tkk 16 ?_
            refine wpAnyH_done (by kernel_rfl) ?_ _
            go_wp2_with fail
            go_ret
            exact ⟨rfl, RR.out⟩
          · go_simp
            refine hK.out _ _ trivial (fun _ => ?_)
            clear hK K
            refine wpAnyH_ready (rs := [9, 13]) (by kernel_rfl) (by simp) ?_
            refine AllReadyH.cons rfl (fun K hK => ?_) (AllReadyH.cons rfl (fun K hK => ?_) AllReadyH.nil)
            · go_simp
              refine hK.out _ _ trivial (fun _ => ?_)
              clear hK K
              refine rdy 13 (fun K hK => ?_)
              refine row_app_step elI (by decide) (by decide) rfl _ _ rfl ns.length (ns.map (Value.int .i64)) [.int .i64 x] rfl (by intro u hu; simp at hu; subst hu; rfl) (.slice vo ns.length vc) (by rfl) R3.out w3.heap.size (by rfl) rfl (by omega) (.inr (.inr rfl)) ?_
              intro gg cp w5 hown hgrow hat
              have EN := hid (HEND.out gg cp w5 hown hgrow hat)
              have v0 := EN.out.1
              have v1 := EN.out.2.1
              have v2 := EN.out.2.2.1
              refine hK.out _ _ trivial (fun _ => ?_)
              clear hK K hown hgrow hat
              simp only [Act.put, List.setIfInBounds_toArray, List.set_cons_zero, List.set_cons_succ, List.getElem_toArray, List.getElem_cons_succ, List.getElem_cons_zero]
              refine tkk 14 ?_
              refine rdy 15 (fun K hK => ?_)
              go_simp
              refine EN.out.2.2.2.mono ?_
              rintro e6 w6 ⟨rfl, R6⟩
              have RR := hid R6
              go_simp
              refine hK.out _ _ trivial (fun _ => ?_)
              clear hK K R6
              refine tkk 16 ?_
              refine wpAnyH_done (by kernel_rfl) ?_ _
              go_wp2_with fail
              go_ret
              exact ⟨rfl, RR.out⟩
            · refine row_app_step elI (by decide) (by decide) rfl _ _ rfl ns.length (ns.map (Value.int .i64)) [.int .i64 x] rfl (by intro u hu; simp at hu; subst hu; rfl) (.slice vo ns.length vc) (by rfl) R3.out w3.heap.size (by rfl) rfl (by omega) (.inr (.inr rfl)) ?_
              intro gg cp w5 hown hgrow hat
              have EN := hid (HEND.out gg cp w5 hown hgrow hat)
              have v0 := EN.out.1
              have v1 := EN.out.2.1
              have v2 := EN.out.2.2.1
              refine hK.out _ _ trivial (fun _ => ?_)
              clear hK K hown hgrow hat
              simp only [Act.put, List.setIfInBounds_toArray, List.set_cons_zero, List.set_cons_succ, List.getElem_toArray, List.getElem_cons_succ, List.getElem_cons_zero]
              refine rdy 9 (fun K hK => ?_)
              go_simp
              refine hK.out _ _ trivial (fun _ => ?_)
              clear hK K
              refine tkk 14 ?_
              refine rdy 15 (fun K hK => ?_)
              go_simp
              refine EN.out.2.2.2.mono ?_
              rintro e6 w6 ⟨rfl, R6⟩
              have RR := hid R6
              go_simp
              refine hK.out _ _ trivial (fun _ => ?_)
              clear hK K R6
              refine tkk 16 ?_
              refine wpAnyH_done (by kernel_rfl) ?_ _
              go_wp2_with fail
              go_ret
              exact ⟨rfl, RR.out⟩
        · go_simp
          refine hK.out _ _ trivial (fun _ => ?_)
          clear hK K
          refine wpAnyH_ready (rs := [4, 13]) (by kernel_rfl) (by simp) ?_
          refine AllReadyH.cons rfl (fun K hK => ?_) (AllReadyH.cons rfl (fun K hK => ?_) AllReadyH.nil)
          · go_simp
            refine hK.out _ _ trivial (fun _ => ?_)
            clear hK K
            refine tkk 7 ?_
            refine tkk 8 ?_
            refine wpAnyH_ready (rs := [9, 13]) (by kernel_rfl) (by simp) ?_
            refine AllReadyH.cons rfl (fun K hK => ?_) (AllReadyH.cons rfl (fun K hK => ?_) AllReadyH.nil)
            · go_simp
              refine hK.out _ _ trivial (fun _ => ?_)
              clear hK K
              refine rdy 13 (fun K hK => ?_)
              refine row_app_step elI (by decide) (by decide) rfl _ _ rfl ns.length (ns.map (Value.int .i64)) [.int .i64 x] rfl (by intro u hu; simp at hu; subst hu; rfl) (.slice vo ns.length vc) (by rfl) R3.out w3.heap.size (by rfl) rfl (by omega) (.inr (.inr rfl)) ?_
              intro gg cp w5 hown hgrow hat
              have EN := hid (HEND.out gg cp w5 hown hgrow hat)
              have v0 := EN.out.1
              have v1 := EN.out.2.1
              have v2 := EN.out.2.2.1
              refine hK.out _ _ trivial (fun _ => ?_)
              clear hK K hown hgrow hat
              simp only [Act.put, List.setIfInBounds_toArray, List.set_cons_zero, List.set_cons_succ, List.getElem_toArray, List.getElem_cons_succ, List.getElem_cons_zero]
              refine tkk 14 ?_
              refine rdy 15 (fun K hK => ?_)
              go_simp
              refine EN.out.2.2.2.mono ?_
              rintro e6 w6 ⟨rfl, R6⟩
              have RR := hid R6
              go_simp
              refine hK.out _ _ trivial (fun _ => ?_)
              clear hK K R6
              refine tkk 16 ?_
              refine wpAnyH_done (by kernel_rfl) ?_ _
              go_wp2_with fail
              go_ret
              exact ⟨rfl, RR.out⟩
            · refine row_app_step elI (by decide) (by decide) rfl _ _ rfl ns.length (ns.map (Value.int .i64)) [.int .i64 x] rfl (by intro u hu; simp at hu; subst hu; rfl) (.slice vo ns.length vc) (by rfl) R3.out w3.heap.size (by rfl) rfl (by omega) (.inr (.inr rfl)) ?_
              intro gg cp w5 hown hgrow hat
              have EN := hid (HEND.out gg cp w5 hown hgrow hat)
              have v0 := EN.out.1
              have v1 := EN.out.2.1
              have v2 := EN.out.2.2.1
              refine hK.out _ _ trivial (fun _ => ?_)
              clear hK K hown hgrow hat
              simp only [Act.put, List.setIfInBounds_toArray, List.set_cons_zero, List.set_cons_succ, List.getElem_toArray, List.getElem_cons_succ, List.getElem_cons_zero]
              refine rdy 9 (fun K hK => ?_)
              go_simp
              refine hK.out _ _ trivial (fun _ => ?_)
              clear hK K
              refine tkk 14 ?_
              refine rdy 15 (fun K hK => ?_)
              go_simp
              refine EN.out.2.2.2.mono ?_
              rintro e6 w6 ⟨rfl, R6⟩
              have RR := hid R6
              go_simp
              refine hK.out _ _ trivial (fun _ => ?_)
              clear hK K R6
              refine tkk 16 ?_
              refine wpAnyH_done (by kernel_rfl) ?_ _
              go_wp2_with fail
              go_ret
              exact ⟨rfl, RR.out⟩
          · refine row_app_step elI (by decide) (by decide) rfl _ _ rfl ns.length (ns.map (Value.int .i64)) [.int .i64 x] rfl (by intro u hu; simp at hu; subst hu; rfl) (.slice vo ns.length vc) (by rfl) R3.out w3.heap.size (by rfl) rfl (by omega) (.inr (.inr rfl)) ?_
            intro gg cp w5 hown hgrow hat
            have EN := hid (HEND.out gg cp w5 hown hgrow hat)
            have v0 := EN.out.1
            have v1 := EN.out.2.1
            have v2 := EN.out.2.2.1
            refine hK.out _ _ trivial (fun _ => ?_)
            clear hK K hown hgrow hat
            simp only [Act.put, List.setIfInBounds_toArray, List.set_cons_zero, List.set_cons_succ, List.getElem_toArray, List.getElem_cons_succ, List.getElem_cons_zero]
            refine rdy 4 (fun K hK => ?_)
            go_simp
            refine hK.out _ _ trivial (fun _ => ?_)
            clear hK K
            refine tkk 7 ?_
            refine tkk 8 ?_
            refine rdy 9 (fun K hK => ?_)
            go_simp
            refine hK.out _ _ trivial (fun _ => ?_)
            clear hK K
            refine tkk 14 ?_
            refine rdy 15 (fun K hK => ?_)
            go_simp
            refine EN.out.2.2.2.mono ?_
            rintro e6 w6 ⟨rfl, R6⟩
            have RR := hid R6
            go_simp
            refine hK.out _ _ trivial (fun _ => ?_)
            clear hK K R6
            refine tkk 16 ?_
            refine wpAnyH_done (by kernel_rfl) ?_ _
            go_wp2_with fail
            go_ret
            exact ⟨rfl, RR.out⟩

end Go.Proofs.YtemidicgipebjaaGreat
