/- Whatever acts are done, each name is there once, in the order in which it came last, where it was not there, and what was set last is got (of the first 80 acts; an act whose text has more than 300 bytes asks for the law's own test alone): DictOnce is true for every input; no condition. -/
import Derived.Test.YtphniknckmfilaaDcAct
import Derived.Test.YtphniknckmfilaaRows
import Derived.WalkKit
import Derived.ProofKit
import Derived.OpenShut
import Derived.ShutString
import Derived.ChangeOld
import Derived.Below
namespace Go.Proofs.Ytphniknckmfilaa.dictOnce
open Go.ChangeShapes Go.WideShapes Go.ChangeAt Go.RowKit
open Go.ChangeMaps (open_string shut_string)
set_option linter.unusedVariables false

theorem own : ownKnob Try.prog.godebug = none := by kernel_rfl

set_option linter.unusedSimpArgs false
set_option maxHeartbeats 4000000 in
set_option maxRecDepth 100000 in
theorem walk_acts (ao : Option Addr) (cap : Nat) (acts : List Ac) (w : World) (HR : Hid (RowsArg 5 (.slice ao acts.length cap) (acts.map acC) w)) (HO : Hid (∀ a ∈ acts, AcOk a)) :
    Calls Try.prog 5 #[.slice ao acts.length cap] w fun e w' => e = .returned (.bool true) ∧ Below w.heap.size w w' := by
  go_enter Try.func5, Try.ntmps5
  go_wp2_with fail
  refine (new_calls _).mono ?_
  rintro e0 w0 ⟨d, rfl, h0, b0⟩
  have H0 := hid h0
  have B0 := hid b0
  clear h0 b0
  go_wp2_with fail
  go_loopw [4, 5] (fun n k wr => ∃ (j : Nat) (l : List Ent), j ≤ acts.length ∧ j ≤ 80 ∧ k = .int .i64 j ∧ n = .int .i64 (l.length : Int) ∧ Hid (DcS (fun b => w.heap.size ≤ b) d j l wr) ∧ Hid (Below w.heap.size w wr)) (fun _ k _ => 80 - (intOf k).toNat)
  case atStart => exact ⟨0, [], by omega, by omega, rfl, rfl, H0, B0⟩
  case round =>
    obtain ⟨j, l, hj, hj8, rfl, rfl, hD, hB⟩ := hrel
    by_cases hjn : j < acts.length ∧ j < 80
    · obtain ⟨hjl, hj80⟩ := hjn
      obtain ⟨a, ha⟩ : ∃ a, acts[j]? = some a := ⟨acts[j], List.getElem?_eq_getElem hjl⟩
      have hok := HO.out a (List.mem_of_getElem? ha)
      obtain ⟨b, off, rfl, hb, hcs⟩ := acts_at HR.out ha
      have C := hid (show ActAt b (off + j * 5) a w from hcs)
      have HLg := hid (long_calls a hok.1 hok.2 wr)
      clear hcs
      obtain ⟨o, s, x⟩ := a
      obtain ⟨c0, c1, c2, c3, c4⟩ := act_on C.out hb hB.out
      simp only at c0 c1 c2 c3 c4
      cases hlg : longA (o, s, x) with
      | true =>
        rw [hlg] at HLg
        go_wp2_with fail
        refine HLg.out.mono ?_
        rintro e1 w1 ⟨rfl, b1⟩
        have B1 := hid (below_on hB.out b1)
        clear b1 HLg
        go_wp2_with fail
        refine (works_calls _).mono ?_
        rintro e2 w2 ⟨rfl, b2⟩
        have B2 := hid (below_on B1.out b2)
        clear b2 B1
        go_wp2_with fail
        go_ret
        exact ⟨rfl, B2.out⟩
      | false =>
        obtain ⟨hs, _⟩ := not_long hlg
        rw [hlg] at HLg
        go_wp2_with fail
        refine HLg.out.mono ?_
        rintro e1 w1 ⟨rfl, b1⟩
        have B1 := hid (below_on hB.out b1)
        have D1 := hid (hD.out.on b1)
        have hz1 := hid B1.out.size
        clear b1 HLg hD hB c0 c1 c2 c3 c4
        obtain ⟨c0, c1, c2, c3, c4⟩ := act_on C.out hb B1.out
        simp only at c0 c1 c2 c3 c4
        go_wp2_with fail
        refine (len_calls _ D1.out).mono ?_
        rintro e2 w2 ⟨rfl, rfl⟩
        have hln : l.length ≤ 80 := Nat.le_trans D1.out.once.2 hj8
        by_cases ho0 : o = 0
        · subst ho0
          go_wp2_with fail
          refine wp_region_held_drew (S := fun a => a.cell? ⟨b, off + j * 5 + 1, none⟩ = some (.string s) ∧ a.cell? ⟨b, off + j * 5 + 2, none⟩ = some (.int .i64 x.1) ∧ a.cell? ⟨b, off + j * 5 + 3, none⟩ = some (.int .i64 x.2.1) ∧ a.cell? ⟨b, off + j * 5 + 4, none⟩ = some (.string x.2.2)) (by kernel_rfl) ⟨c1, c2, c3, c4⟩ (fun hHeld => ?_)
          refine wpAnyH_take (i := 0) (v := ?v1) rfl (by kernel_rfl) (by kernel_rfl) (by kernel_rfl) (fun _ _ _ h => h) (Or.inl ⟨by rfl, ?hy1⟩) (by assumption) ?_
          case hy1 => (intro w hSw; go_simp <;> (try with_reducible rfl))
          simp only [Act.put, List.setIfInBounds_toArray, List.set_cons_zero, List.set_cons_succ, List.getElem_toArray, List.getElem_cons_succ, List.getElem_cons_zero]
          refine wpAnyH_take (i := 1) (v := ?v2) rfl (by kernel_rfl) (by kernel_rfl) (by kernel_rfl) (fun _ _ _ h => h) (Or.inl ⟨by rfl, ?hy2⟩) (by assumption) ?_
          case hy2 => (intro w hSw; go_simp <;> (try with_reducible rfl))
          simp only [Act.put, List.setIfInBounds_toArray, List.set_cons_zero, List.set_cons_succ, List.getElem_toArray, List.getElem_cons_succ, List.getElem_cons_zero]
          refine wpAnyH_take (i := 2) (v := ?v3) rfl (by kernel_rfl) (by kernel_rfl) (by kernel_rfl) (fun _ _ _ h => h) (Or.inl ⟨by rfl, ?hy3⟩) (by assumption) ?_
          case hy3 => (intro w hSw; go_simp <;> (try with_reducible rfl))
          simp only [Act.put, List.setIfInBounds_toArray, List.set_cons_zero, List.set_cons_succ, List.getElem_toArray, List.getElem_cons_succ, List.getElem_cons_zero]
          refine wpAnyH_take (i := 3) (v := ?v4) rfl (by kernel_rfl) (by kernel_rfl) (by kernel_rfl) (fun _ _ _ h => h) (Or.inl ⟨by rfl, ?hy4⟩) (by assumption) ?_
          case hy4 => (intro w hSw; go_simp <;> (try with_reducible rfl))
          simp only [Act.put, List.setIfInBounds_toArray, List.set_cons_zero, List.set_cons_succ, List.getElem_toArray, List.getElem_cons_succ, List.getElem_cons_zero]
          refine wpAnyH_take (i := 4) (v := ?v5) rfl (by kernel_rfl) (by kernel_rfl) (by kernel_rfl) (fun _ _ _ h => h) (Or.inl ⟨by rfl, ?hy5⟩) (by assumption) ?_
          case hy5 => (intro w hSw; go_simp <;> (try with_reducible rfl))
          simp only [Act.put, List.setIfInBounds_toArray, List.set_cons_zero, List.set_cons_succ, List.getElem_toArray, List.getElem_cons_succ, List.getElem_cons_zero]
          refine wpAnyH_take (i := 5) (v := ?v6) rfl (by kernel_rfl) (by kernel_rfl) (by kernel_rfl) (fun _ _ _ h => h) (Or.inl ⟨by rfl, ?hy6⟩) (by assumption) ?_
          case hy6 => (intro w hSw; go_simp <;> (try with_reducible rfl))
          simp only [Act.put, List.setIfInBounds_toArray, List.set_cons_zero, List.set_cons_succ, List.getElem_toArray, List.getElem_cons_succ, List.getElem_cons_zero]
          refine wpAnyH_take (i := 6) (v := ?v7) rfl (by kernel_rfl) (by kernel_rfl) (by kernel_rfl) (fun _ _ _ h => h) (Or.inl ⟨by rfl, ?hy7⟩) (by assumption) ?_
          case hy7 => (intro w hSw; go_simp <;> (try with_reducible rfl))
          simp only [Act.put, List.setIfInBounds_toArray, List.set_cons_zero, List.set_cons_succ, List.getElem_toArray, List.getElem_cons_succ, List.getElem_cons_zero]
          refine wpAnyH_take (i := 7) (v := ?v8) rfl (by kernel_rfl) (by kernel_rfl) (by kernel_rfl) (fun _ _ _ h => h) (Or.inl ⟨by rfl, ?hy8⟩) (by assumption) ?_
          case hy8 => (intro w hSw; go_simp <;> (try with_reducible rfl))
          simp only [Act.put, List.setIfInBounds_toArray, List.set_cons_zero, List.set_cons_succ, List.getElem_toArray, List.getElem_cons_succ, List.getElem_cons_zero]
          refine wpAnyH_take (i := 8) (v := ?v9) rfl (by kernel_rfl) (by kernel_rfl) (by kernel_rfl) (fun _ _ _ h => h) (Or.inl ⟨by rfl, ?hy9⟩) (by assumption) ?_
          case hy9 => (intro w hSw; go_simp <;> (try with_reducible rfl))
          simp only [Act.put, List.setIfInBounds_toArray, List.set_cons_zero, List.set_cons_succ, List.getElem_toArray, List.getElem_cons_succ, List.getElem_cons_zero]
          refine wpAnyH_take (i := 9) (v := ?v10) rfl (by kernel_rfl) (by kernel_rfl) (by kernel_rfl) (fun _ _ _ h => h) (Or.inl ⟨by rfl, ?hy10⟩) (by assumption) ?_
          case hy10 => (intro w hSw; go_simp <;> (try with_reducible rfl))
          simp only [Act.put, List.setIfInBounds_toArray, List.set_cons_zero, List.set_cons_succ, List.getElem_toArray, List.getElem_cons_succ, List.getElem_cons_zero]
          refine wpAnyH_take (i := 10) (v := ?v11) rfl (by kernel_rfl) (by kernel_rfl) (by kernel_rfl) (fun _ _ _ h => h) (Or.inl ⟨by rfl, ?hy11⟩) (by assumption) ?_
          case hy11 => (intro w hSw; go_simp <;> (try with_reducible rfl))
          simp only [Act.put, List.setIfInBounds_toArray, List.set_cons_zero, List.set_cons_succ, List.getElem_toArray, List.getElem_cons_succ, List.getElem_cons_zero]
          refine wpAnyH_ready (rs := [11]) (by kernel_rfl) (by simp) ?_
          refine AllReadyH.cons rfl (fun K hK => ?_) AllReadyH.nil
          have HK := hid hK
          clear hK
          go_simp
          refine (dset0 _ (D1.out.on (Below.refl _ _).drew) hz1.out (by omega) s hs x).mono ?_
          rintro e3 w3 ⟨rfl, d3, b3⟩
          have D3 := hid d3
          have B3 := hid (B1.out.drew.trans b3)
          have hz3 := hid B3.out.size
          clear d3 b3 D1 c0 c1 c2 c3 c4
          obtain ⟨c0, c1, c2, c3, c4⟩ := act_on C.out hb B3.out
          simp only at c0 c1 c2 c3 c4
          refine HK.out.out _ _ ⟨c1, c2, c3, c4⟩ (fun _ => ?_)
          clear HK K B1 hz1
          refine wpAnyH_done (by kernel_rfl) ?_ _
          cases hh : hasL l s with
          | true =>
            have HG := hid (get_calls _ D3.out s hs)
            rw [show hasL (setL l s x) s = true from by unfold hasL; rw [look_setL]; rfl, show gotV (setL l s x) s = x from by unfold gotV; rw [look_setL]; rfl] at HG
            unfold vlV at HG
            have HE := hid (show (setL l s x).length = l.length by rw [setL_len, hh]; rfl)
            go_wp2_with fail
            refine HG.out.mono ?_
            rintro e5 w5 ⟨rfl, b5⟩
            have A5 := b5.alloc b5.size (Obj.cells #[.int .i64 x.1, .int .i64 x.2.1, .string x.2.2] 32)
            have D5 := hid (D3.out.on A5)
            have B5 := hid (below_on B3.out A5)
            clear b5 A5 HG D3 B3 c0 c1 c2 c3 c4
            obtain ⟨c0, c1, c2, c3, c4⟩ := act_on C.out hb B5.out
            simp only at c0 c1 c2 c3 c4
            go_wp2_with fail
            go_quiet (fail)
            go_wp2_with fail
            exact ⟨⟨j + 1, setL l s x, by omega, by omega, by simp, by rw [HE.out], hid (D5.out.on (below_drewN (Below.refl _ _) _)), hid (below_drewN B5.out _)⟩, by simp [intOf]; omega⟩
          | false =>
            have HE := hid (show ((setL l s x).length : Int) = (l.length : Int) + 1 by rw [setL_len, hh]; simp)
            have HKy := hid (key_some (i := l.length) (x := (s, x)) _ D3.out (by omega) (by rw [setL_new x hh]; simp))
            go_wp2_with fail
            refine HKy.out.mono ?_
            rintro e4 w4 ⟨rfl, b4⟩
            have D4 := hid (D3.out.on b4)
            have B4 := hid (below_on B3.out b4)
            clear b4 HKy D3 B3 c0 c1 c2 c3 c4
            obtain ⟨c0, c1, c2, c3, c4⟩ := act_on C.out hb B4.out
            simp only at c0 c1 c2 c3 c4
            have HG := hid (get_calls _ D4.out s hs)
            rw [show hasL (setL l s x) s = true from by unfold hasL; rw [look_setL]; rfl, show gotV (setL l s x) s = x from by unfold gotV; rw [look_setL]; rfl] at HG
            unfold vlV at HG
            go_wp2_with fail
            refine HG.out.mono ?_
            rintro e5 w5 ⟨rfl, b5⟩
            have A5 := b5.alloc b5.size (Obj.cells #[.int .i64 x.1, .int .i64 x.2.1, .string x.2.2] 32)
            have D5 := hid (D4.out.on A5)
            have B5 := hid (below_on B4.out A5)
            clear b5 A5 HG D4 B4 c0 c1 c2 c3 c4
            obtain ⟨c0, c1, c2, c3, c4⟩ := act_on C.out hb B5.out
            simp only at c0 c1 c2 c3 c4
            go_wp2_with fail
            go_quiet (fail)
            go_wp2_with fail
            exact ⟨⟨j + 1, setL l s x, by omega, by omega, by simp, by rw [HE.out], hid (D5.out.on (below_drewN (Below.refl _ _) _)), hid (below_drewN B5.out _)⟩, by simp [intOf]; omega⟩
        · by_cases ho1 : o = 1
          · subst ho1
            go_wp2_with fail
            refine (ddel0 _ D1.out hz1.out (by omega) s hs).mono ?_
            rintro e3 w3 ⟨rfl, d3, b3⟩
            have D3 := hid d3
            have B3 := hid (B1.out.trans b3)
            have HG := hid (get_calls _ D3.out s hs)
            rw [show hasL (dropL l s) s = false from by unfold hasL; rw [look_dropL]; rfl, show gotV (dropL l s) s = vl0 from by unfold gotV; rw [look_dropL]; rfl] at HG
            unfold vlV vl0 at HG
            have hone := hid D1.out.once.1.1
            clear d3 b3 D1 c0 c1 c2 c3 c4 B1 hz1
            obtain ⟨c0, c1, c2, c3, c4⟩ := act_on C.out hb B3.out
            simp only at c0 c1 c2 c3 c4
            cases hh : hasL l s with
            | true =>
              have hdl := dropL_len hone.out hh
              have hl1 : 1 ≤ l.length := by omega
              have HE := hid (show ((l.length : Int) - 1) = ((dropL l s).length : Int) by omega)
              clear hdl
              go_wp2_with fail
              refine HG.out.mono ?_
              rintro e4 w4 ⟨rfl, b4⟩
              have A4 := b4.alloc b4.size (.cells #[.int .i64 0, .int .i64 0, .string ⟨#[]⟩] 32)
              have D4 := hid (D3.out.on A4)
              have B4 := hid (below_on B3.out A4)
              clear b4 A4 HG D3 B3
              go_wp2_with fail
              exact ⟨⟨j + 1, dropL l s, by omega, by omega, by simp, by rw [HE.out], hid (D4.out.mono (fun _ _ h => h) (by omega)), B4⟩, by simp [intOf]; omega⟩
            | false =>
              have HE := hid (dropL_none hh)
              rw [HE.out] at D3
              go_wp2_with fail
              refine HG.out.mono ?_
              rintro e4 w4 ⟨rfl, b4⟩
              have A4 := b4.alloc b4.size (.cells #[.int .i64 0, .int .i64 0, .string ⟨#[]⟩] 32)
              have D4 := hid (D3.out.on A4)
              have B4 := hid (below_on B3.out A4)
              clear b4 A4 HG D3 B3
              go_wp2_with fail
              exact ⟨⟨j + 1, l, by omega, by omega, by simp, rfl, hid (D4.out.mono (fun _ _ h => h) (by omega)), B4⟩, by simp [intOf]; omega⟩
          · have d0 : decide (o = 0) = false := decide_eq_false ho0
            have d1 : decide (o = 1) = false := decide_eq_false ho1
            go_wp2_with fail
            exact ⟨⟨j + 1, l, by omega, by omega, by simp, rfl, hid (D1.out.mono (fun _ _ h => h) (by omega)), B1⟩, by simp [intOf]; omega⟩
    · have hd1 : (decide ((j : Int) < (acts.length : Int)) && decide ((j : Int) < 80)) = false := by
        rw [Bool.and_eq_false_iff, decide_eq_false_iff_not, decide_eq_false_iff_not]; omega
      have hln : l.length ≤ 80 := Nat.le_trans hD.out.once.2 hj8
      have HN := hid (dnames_calls _ hD.out (by omega))
      rcases (show j = acts.length ∨ (j < acts.length ∧ j = 80) by omega) with rfl | ⟨hjl, rfl⟩
      · clear hd1 hjn
        go_wp2_with fail
        refine HN.out.mono ?_
        rintro e2 w2 ⟨u, rfl, su, bu⟩
        obtain ⟨ua, uc, rfl⟩ := row_shape su.1
        have SU := hid su
        have D2 := hid (hD.out.on bu)
        have B2 := hid (below_on hB.out bu)
        have hone := hid hD.out.once.1.1
        clear su bu HN hD hB
        go_wp2_with fail
        go_loopw [14] (fun i wq => ∃ k : Nat, k ≤ l.length ∧ i = .int .i64 k ∧ Hid (Below w2.heap.size w2 wq)) (fun i _ => l.length - (intOf i).toNat)
        case atStart => exact ⟨0, by omega, rfl, hid (Below.refl _ _)⟩
        case round =>
          obtain ⟨k, hk, rfl, hQ⟩ := hrel
          by_cases hkl : k < l.length
          · go_wp2_with fail
            go_loopw [15] (fun i wq2 => ∃ q : Nat, q ≤ k ∧ i = .int .i64 q ∧ Hid (Below w2.heap.size w2 wq2)) (fun i _ => k - (intOf i).toNat)
            case atStart => exact ⟨0, by omega, rfl, hQ⟩
            case round =>
              obtain ⟨q, hq, rfl, hQ2⟩ := hrel
              by_cases hqk : q < k
              · obtain ⟨g, cp, hg, hgl⟩ := strs_form (strsOwn_on SU.out hQ2.out) (by rw [List.length_map]; omega)
                injection hg with hg1 hg2 hg3
                subst hg1 hg3
                have S2 := strsOwn_on SU.out hQ2.out
                have hq1 : (l.map (·.1))[q]? = some (l[q]'(by omega)).1 := by simp [show q < l.length by omega]
                have hk1 : (l.map (·.1))[k]? = some (l[k]'(by omega)).1 := by simp [hkl]
                have x1 := strs_at S2 hq1
                have x2 := strs_at S2 hk1
                have hne : (l[q]'(by omega)).1 ≠ (l[k]'(by omega)).1 := by
                  intro e
                  have hnd := hone.out
                  unfold OnceL at hnd
                  have := (List.getElem?_inj (by rw [List.length_map]; omega) hnd).1 (by rw [hq1, hk1, e] : (l.map (·.1))[q]? = (l.map (·.1))[k]?)
                  omega
                have hqn : q < l.length := by omega
                generalize (l[q]'(by omega)).1 = s1 at *
                generalize (l[k]'(by omega)).1 = s2 at *
                have hnb := toList_ne hne
                clear hq1 hk1 S2 hne
                go_wp2_with fail
                go_quiet (fail)
                go_wp2_with fail
                exact ⟨⟨q + 1, by omega, by simp, hid (below_drewN hQ2.out _)⟩, by simp [intOf]; omega⟩
              · go_wp2_with fail
                exact ⟨⟨k + 1, by omega, by simp, hQ2⟩, by simp [intOf]; omega⟩
          · have hke : k = l.length := by omega
            subst hke
            have D3 := hid (D2.out.on hQ.out)
            have B3 := hid (below_on B2.out hQ.out)
            go_wp2_with fail
            refine (len_calls _ D3.out).mono ?_
            rintro e5 w5 ⟨rfl, rfl⟩
            go_wp2_with fail
            refine (works_calls _).mono ?_
            rintro e6 w6 ⟨rfl, b6⟩
            have B6 := hid (below_on B3.out b6)
            clear b6 B3
            go_wp2_with fail
            go_ret
            exact ⟨rfl, B6.out⟩
      · clear hd1 hjn
        go_wp2_with fail
        refine HN.out.mono ?_
        rintro e2 w2 ⟨u, rfl, su, bu⟩
        obtain ⟨ua, uc, rfl⟩ := row_shape su.1
        have SU := hid su
        have D2 := hid (hD.out.on bu)
        have B2 := hid (below_on hB.out bu)
        have hone := hid hD.out.once.1.1
        clear su bu HN hD hB
        go_wp2_with fail
        go_loopw [14] (fun i wq => ∃ k : Nat, k ≤ l.length ∧ i = .int .i64 k ∧ Hid (Below w2.heap.size w2 wq)) (fun i _ => l.length - (intOf i).toNat)
        case atStart => exact ⟨0, by omega, rfl, hid (Below.refl _ _)⟩
        case round =>
          obtain ⟨k, hk, rfl, hQ⟩ := hrel
          by_cases hkl : k < l.length
          · go_wp2_with fail
            go_loopw [15] (fun i wq2 => ∃ q : Nat, q ≤ k ∧ i = .int .i64 q ∧ Hid (Below w2.heap.size w2 wq2)) (fun i _ => k - (intOf i).toNat)
            case atStart => exact ⟨0, by omega, rfl, hQ⟩
            case round =>
              obtain ⟨q, hq, rfl, hQ2⟩ := hrel
              by_cases hqk : q < k
              · obtain ⟨g, cp, hg, hgl⟩ := strs_form (strsOwn_on SU.out hQ2.out) (by rw [List.length_map]; omega)
                injection hg with hg1 hg2 hg3
                subst hg1 hg3
                have S2 := strsOwn_on SU.out hQ2.out
                have hq1 : (l.map (·.1))[q]? = some (l[q]'(by omega)).1 := by simp [show q < l.length by omega]
                have hk1 : (l.map (·.1))[k]? = some (l[k]'(by omega)).1 := by simp [hkl]
                have x1 := strs_at S2 hq1
                have x2 := strs_at S2 hk1
                have hne : (l[q]'(by omega)).1 ≠ (l[k]'(by omega)).1 := by
                  intro e
                  have hnd := hone.out
                  unfold OnceL at hnd
                  have := (List.getElem?_inj (by rw [List.length_map]; omega) hnd).1 (by rw [hq1, hk1, e] : (l.map (·.1))[q]? = (l.map (·.1))[k]?)
                  omega
                have hqn : q < l.length := by omega
                generalize (l[q]'(by omega)).1 = s1 at *
                generalize (l[k]'(by omega)).1 = s2 at *
                have hnb := toList_ne hne
                clear hq1 hk1 S2 hne
                go_wp2_with fail
                go_quiet (fail)
                go_wp2_with fail
                exact ⟨⟨q + 1, by omega, by simp, hid (below_drewN hQ2.out _)⟩, by simp [intOf]; omega⟩
              · go_wp2_with fail
                exact ⟨⟨k + 1, by omega, by simp, hQ2⟩, by simp [intOf]; omega⟩
          · have hke : k = l.length := by omega
            subst hke
            have D3 := hid (D2.out.on hQ.out)
            have B3 := hid (below_on B2.out hQ.out)
            go_wp2_with fail
            refine (len_calls _ D3.out).mono ?_
            rintro e5 w5 ⟨rfl, rfl⟩
            go_wp2_with fail
            refine (works_calls _).mono ?_
            rintro e6 w6 ⟨rfl, b6⟩
            have B6 := hid (below_on B3.out b6)
            clear b6 B3
            go_wp2_with fail
            go_ret
            exact ⟨rfl, B6.out⟩

theorem walk (a0 : Value) (l0 : List (List Value)) (w : World) (w0 : Hid (RowsArg 5 a0 l0 w)) (n0 : Hid (∀ r ∈ l0, r.length = 5 ∧ Fits [.i, .s, .i, .i, .s] r)) :
    Calls Try.prog 5 #[a0] w fun e w' => e = .returned (.bool true) ∧ Below w.heap.size w w' := by
  obtain ⟨acts, rfl, hok⟩ := acts_of n0.out
  obtain ⟨ao, cap, rfl⟩ := acts_shape w0.out
  exact walk_acts ao cap acts w w0 (hid hok)

set_option maxRecDepth 100000 in
theorem lifted (os : Os) (started : os.Started) (H : Type) (enc : TypeId × Value → H) :
    ReturnsInHanded {} Try.checked os 5 .any (Rows.dictOnceSpec.pre6 enc Try.prog Try.f5 Rows.dictOnceRow.domain false) (Rows.dictOnceSpec.post enc Try.prog Try.f5 false true false false) := by
  refine returnsInHanded_of_change (C := Try.checked) own started (by kernel_rfl) Try.func5
    (ChangeSpec.witness6 (enc := enc) (C := Try.checked) false ⟨#[], #[.slice none 0 0], []⟩ 8 (by kernel_rfl) (by kernel_rfl) (by kernel_rfl) (by kernel_rfl)) ?_
  intro W base args ds gs before hval0 hW hcnd _
  have hval : ∀ (j : Nat) t v, Try.f5.params[j]? = some t → args[j]? = some v → Value.okWide Try.prog W .any base t v := hval0
  have hW' := hW
  obtain ⟨p, q, hA0, hV, rfl, hfz, hnd⟩ := hW
  have hA : DataW.TrodAll enc Try.prog W 0 (fun _ => true) true Try.f5.params.toList args.toList ds p := hA0
  rw [Try.params5] at hA hval
  obtain ⟨v0, vs0, d0, ds0, p0, q0, hargs, rfl, rfl, h0, r0⟩ := trodAll_cons hA
  obtain ⟨rfl, rfl, rfl⟩ := trodAll_nil r0
  obtain rfl : args = #[v0] := by cases args; simp_all
  obtain ⟨rfl, rfl⟩ := trodVars_none hV
  have hk0 := h0
  have hlt0 : ∀ x ∈ p0, x.block < W.heap.size := fun x hx => by simpa using hW'.lt x (by simp [hx])
  obtain ⟨l0, w0, n0⟩ := open_flats Try.underlying22 (show flat Try.prog 5 34 = some [.i, .s, .i, .i, .s] by kernel_rfl) (show Try.prog.cellsOf 34 = 5 by kernel_rfl) (by decide) (hval 0 22 v0 rfl rfl) h0
  clear hA0 hval0
  refine (walk v0 l0 W w0 n0).mono fun e W' ⟨he, hg⟩ => ?_
  subst he
  exact ⟨_, rfl, _, _, _, [], _, [], hW', trodAll_mk1 (shut_bool Try.underlying4 _), (trodAll_cons_mk (Below.trod laidOutP (by kernel_rfl) (of_decide_eq_true (by kernel_rfl)) hk0 hg hlt0) trodAll_mk0), rfl, hg.frame _, fun h => by cases h⟩

theorem over : Rows.dictOnceRow.holds Try.pinned (OpenSpec.ofChange Rows.dictOnceSpec) :=
  OpenClaim.holds_of_wide 5 Try.f5 rfl rfl rfl rfl rfl rfl rfl ⟨rfl, rfl, rfl, rfl, rfl⟩ rfl rfl rfl rfl rfl (by kernel_rfl) Try.func5 (by kernel_rfl)
    (of_decide_eq_true (by kernel_rfl)) (by unfold Func.isWrapper; first | (rw [if_pos (by decide +kernel)]; kernel_rfl) | (rw [if_neg (by decide +kernel)]; exact ⟨rfl, rfl⟩))
    (fun os started H enc _ => lifted os started H enc)

end Go.Proofs.Ytphniknckmfilaa.dictOnce
namespace Go.Proofs.Ytphniknckmfilaa

/-- the statement, as it was given -/
theorem dictOnce_holds : Rows.DictOnceSaid :=
  dictOnce.over
#print axioms dictOnce_holds
end Go.Proofs.Ytphniknckmfilaa
