/- In a program of at most 400 instructions that may be, no value is taken from an empty stack, no stack is too deep, wherever one comes the depth is the same, and what comes back comes to a Tick (of others the law asks its own test alone): CodeSafe is true for every input; no condition. -/
import Derived.Test.YtciobggfefmgnaaCdWork
import Derived.Test.YtciobggfefmgnaaCdFew
import Derived.Test.YtciobggfefmgnaaCdOpen
import Derived.Deep.Cut
import Derived.Deep.CutRange
import Derived.Deep.DeepCutAuto
import Derived.Deep.CutBlock
import Derived.Test.YtciobggfefmgnaaTk
import Derived.Test.YtciobggfefmgnaaRows
import Derived.WalkKit
import Derived.ProofKit
import Derived.OpenShut
import Derived.ShutString
import Derived.ChangeOld
import Derived.Below
namespace Go.Proofs.Ytciobggfefmgnaa.codeSafe
open Go.ChangeShapes Go.WideShapes Go.ChangeAt Go.RowKit
open Go.ChangeMaps (open_string shut_string)
set_option linter.unusedVariables false
set_option maxRecDepth 100000

theorem own : ownKnob Try.prog.godebug = none := by kernel_rfl

set_option linter.unusedSimpArgs false
set_option linter.unusedVariables false
theorem safe_parts {G P C : Int} {c : Cd} {ds : List Int} (hrc : rightC G P C c = true) (hF : Flow c ds) {k : Nat} {d : Int} {x : In} (hk : ds[k]? = some d) (h0 : 0 ≤ d) (hx : c.ins[k]? = some x) :
    (effI x.1 x.2.1).1 ≤ d ∧ d - (effI x.1 x.2.1).1 + (effI x.1 x.2.1).2 ≤ c.d ∧ d ≤ 64 ∧ c.d ≤ 64 ∧ ∀ (i : Nat) t, (tgL c.ins k)[i]? = some t → ∃ j : Nat, t = j ∧ j < c.ins.length ∧ ds[j]? = some (d - (effI x.1 x.2.1).1 + (effI x.1 x.2.1).2 + if (decide (i = 1) && keepB x.1) = true then 1 else 0) ∧ (j ≤ k → ∃ y, c.ins[j]? = some y ∧ y.1 = 1) := by
  obtain ⟨_, q2, q3⟩ := rightC_parts hrc
  have hd := flow_deep hF q2.1 hk
  obtain ⟨_, hfit, n, hr⟩ := (hF.2.2 k d hk).resolve_left (by omega)
  have hp := hfit.1
  rw [pop_at hx] at hp
  have hok := q3 k x hx
  refine ⟨hp, ?_, by omega, q2.2, fun i t ht => ?_⟩
  · by_cases h32 : x.1 = 32
    · have : effI x.1 x.2.1 = (1, 0) := by rw [h32]; rfl
      rw [this] at hp ⊢
      simp only at hp ⊢
      omega
    · have hm : ∃ t, (t, d - (effI x.1 x.2.1).1 + (effI x.1 x.2.1).2) ∈ nxL c.ins k d := by
        unfold nxL
        rw [hx]
        simp only
        unfold nxI
        rw [if_neg h32]
        split
        · exact ⟨_, by simp; rfl⟩
        · split
          · exact ⟨(k : Int) + 1, by simp⟩
          · exact ⟨(k : Int) + 1, by simp⟩
      obtain ⟨t, hm⟩ := hm
      exact (hfit.2 _ _ hm).1
  · have hn := nx_at (d := d) hx ht
    obtain ⟨_, j, hj, hde⟩ := hfit.2 _ _ (List.mem_of_getElem? hn)
    have hjl : j < c.ins.length := by
      have := (List.getElem?_eq_some_iff.1 hde).1
      rw [hF.1] at this
      exact this
    refine ⟨j, hj, hjl, hde, fun hjk => ?_⟩
    have hga : goB x.1 = true ∧ t = x.2.1 := by
      unfold tgL at ht
      rw [hx] at ht
      simp only at ht
      unfold tgI at ht
      have hm := List.mem_of_getElem? ht
      split at hm
      · cases hm
      · split at hm
        · rename_i h
          simp at hm
          exact ⟨by rw [h]; rfl, hm⟩
        · split at hm
          · rename_i h
            simp at hm
            rcases hm with hm | hm
            · omega
            · exact ⟨h, hm⟩
          · simp at hm
            omega
    have hb := okI_back hok hga.1 (by omega)
    rw [← hga.2, hj, Int.toNat_natCast] at hb
    refine ⟨_, List.getElem?_eq_getElem hjl, ?_⟩
    unfold opA at hb
    rw [List.getElem?_eq_getElem hjl] at hb
    exact hb
set_option maxHeartbeats 12800000 in
theorem walk_safe (G : Int) (ss : List ByteArray) (cs : List Cd) (pa ca : Option Addr) (pc cc : Nat) (w : World) (hP : PlIn w.heap.size w (.slice pa ss.length pc) ss) (hS : ∀ s ∈ ss, s.size ≤ maxLen) (hC : CdsIn w.heap.size w (.slice ca cs.length cc) cs) :
    Calls Try.prog 6 #[.agg #[.int .i64 G, .slice pa ss.length pc, .slice ca cs.length cc]] w fun e w' => e = .returned (.bool true) ∧ Below w.heap.size w w' := by
  have FW := hid (fun W (q : Below w.heap.size w W) => cfew_calls w.heap.size ⟨G, ss, cs⟩ (.slice pa ss.length pc) (.slice ca cs.length cc) W q.size (plIn_on hP q) (cdsIn_on hC q))
  have PG := hid (show FewG ⟨G, ss, cs⟩ → PgIn w.heap.size w ⟨G, ss, cs⟩ (.slice pa ss.length pc) (.slice ca cs.length cc) from fun h => ⟨hP, hC, ⟨Nat.le_trans h.1 (by decide), Nat.le_trans h.2.1 (by decide)⟩, fun c hc => Nat.le_trans (h.2.2 c hc) (by decide), hS⟩)
  simp only [pgV] at FW
  clear hP hC hS
  have AL := hid (box_below w (.cells #[.int .i64 G, .slice pa ss.length pc, .slice ca cs.length cc] 25))
  have BL := hid (blk_new w 25 #[.int .i64 G, .slice pa ss.length pc, .slice ca cs.length cc])
  have hsz : (w.alloc (.cells #[.int .i64 G, .slice pa ss.length pc, .slice ca cs.length cc] 25)).heap.size = w.heap.size + 1 := by simp
  generalize hW : w.alloc (.cells #[.int .i64 G, .slice pa ss.length pc, .slice ca cs.length cc] 25) = w1 at *
  have LOW := hid (fun (W : World) (q : Below w1.heap.size w1 W) => AL.out.trans (q.mono (by omega)))
  have CELLS := hid (fun (W : World) (q : Below w1.heap.size w1 W) => (show W.cell? ⟨w.heap.size, 0, none⟩ = some (.int .i64 G) ∧ W.cell? ⟨w.heap.size, 1, none⟩ = some (.slice pa ss.length pc) ∧ W.cell? ⟨w.heap.size, 2, none⟩ = some (.slice ca cs.length cc) from
    have h := blk_on BL.out q
    ⟨blk_cellZ h 0 rfl, blk_cellZ h 1 rfl, blk_cellZ h 2 rfl⟩))
  obtain ⟨p0, p1, p2⟩ := CELLS.out w1 (Below.refl _ _)
  go_enter Try.func6, Try.ntmps6
  go_wp2_with fail
  refine (FW.out _ AL.out).mono ?_
  rintro e w2 ⟨⟨r, rfl, hfew⟩, b2⟩
  have L2 := hid b2
  clear b2 p0 p1 p2
  cases r with
  | false =>
    clear hfew
    go_wp2_with fail
    refine (works14_calls _).mono ?_
    rintro e w3 ⟨rfl, b3⟩
    have B3 := hid (LOW.out _ (below_in L2.out (Nat.le_refl _) b3))
    clear b3
    go_wp2_with fail
    go_ret
    exact ⟨rfl, B3.out⟩
  | true =>
  replace PG := hid (PG.out (hfew rfl))
  clear hfew
  have hfw := PG.out.few
  simp only at hfw
  have CK := hid (fun W (q : Below w.heap.size w W) => ccheck_calls w.heap.size ⟨G, ss, cs⟩ (.slice pa ss.length pc) (.slice ca cs.length cc) W q.size (PG.out.on q))
  have DP := hid (fun (f : Int) W (q : Below w.heap.size w W) => cdepths_calls w.heap.size ⟨G, ss, cs⟩ (.slice pa ss.length pc) (.slice ca cs.length cc) f W q.size (PG.out.on q))
  simp only [pgV] at CK DP
  obtain ⟨p0, p1, p2⟩ := CELLS.out w2 L2.out
  go_wp2_with fail
  refine (CK.out _ (LOW.out _ L2.out)).mono ?_
  rintro e w3 ⟨⟨r, rfl, hck⟩, b3⟩
  have L3 := hid (below_in L2.out (Nat.le_refl _) b3)
  clear b3 p0 p1 p2 L2
  rcases hck with ⟨rfl, hck⟩ | ⟨rfl, hck⟩
  rotate_left 1
  · clear hck
    go_wp2_with fail
    refine (works14_calls _).mono ?_
    rintro e w4 ⟨rfl, b4⟩
    have B4 := hid (LOW.out _ (below_in L3.out (Nat.le_refl _) b4))
    clear b4
    go_wp2_with fail
    go_ret
    exact ⟨rfl, B4.out⟩
  have CKP := hid hck
  clear hck
  go_wp2_with fail
  go_loopw [3] (fun iV wr => ∃ i : Nat, i ≤ cs.length ∧ iV = .int .i64 i ∧ Hid (Below w1.heap.size w1 wr)) (fun iV _ => cs.length - (intOf iV).toNat)
  case atStart => exact ⟨0, by omega, rfl, L3⟩
  case round =>
    obtain ⟨i, hi, rfl, hL⟩ := hrel
    rename World => wo
    obtain ⟨p0, p1, p2⟩ := CELLS.out wo hL.out
    by_cases hil : i < cs.length
    rotate_left 1
    · have hie : i = cs.length := by omega
      subst hie
      go_wp2_with fail
      refine (works14_calls _).mono ?_
      rintro e w4 ⟨rfl, b4⟩
      have B4 := hid (LOW.out _ (below_in hL.out (Nat.le_refl _) b4))
      clear b4
      go_wp2_with fail
      go_ret
      exact ⟨rfl, B4.out⟩
    obtain ⟨c, hc⟩ : ∃ c, cs[i]? = some c := ⟨_, List.getElem?_eq_getElem hil⟩
    have hil' : (i : Int) < (cs.length : Int) := by omega
    have hrc := (CKP.out.2 c (List.mem_of_getElem? hc)).1
    have hci := PG.out.ins c (List.mem_of_getElem? hc)
    obtain ⟨cb, off, hca, hcb, iv, d0, d1, d2, d3, d4, hI⟩ := cdsIn_at (PG.out.on (LOW.out _ hL.out)).codes hc
    subst hca
    have HIv := hid hI
    obtain ⟨ia, ic, rfl⟩ := insIn_shape hI
    clear hI
    have SP := hid (fun ds (hF : Flow c ds) (k : Nat) (d : Int) (x : In) hk h0 hx => safe_parts hrc hF (k := k) (d := d) (x := x) hk h0 hx)
    have hn1 := (rightC_parts hrc).1.1
    have CH := hid hc
    simp only at hrc
    clear hrc hc
    obtain ⟨p, l, s, d, is⟩ := c
    simp only at d0 d1 d2 d3 d4 hci HIv SP hn1
    have X4 := hid (box_below wo (.cells #[.int .i64 p, .int .i64 l, .int .i64 s, .int .i64 d, .slice ia is.length ic] 37))
    have C4 := hid (blk_new wo 37 #[.int .i64 p, .int .i64 l, .int .i64 s, .int .i64 d, .slice ia is.length ic])
    have L4 := hid (hL.out.trans (X4.out.mono hL.out.size))
    have hs4 : (wo.alloc (.cells #[.int .i64 p, .int .i64 l, .int .i64 s, .int .i64 d, .slice ia is.length ic] 37)).heap.size = wo.heap.size + 1 := by simp
    go_upto_region 7 with fail
    generalize hW4 : wo.alloc (.cells #[.int .i64 p, .int .i64 l, .int .i64 s, .int .i64 d, .slice ia is.length ic] 37) = w4 at *
    clear d0 d1 d2 d3 d4 p0 p1 p2
    obtain ⟨p0, p1, p2⟩ := CELLS.out w4 L4.out
    have hsr := hL.out.size
    go_wp2_with fail
    refine (DP.out (i : Int) _ (LOW.out _ L4.out)).mono ?_
    rintro e w5 ⟨⟨v, ds, rfl, hdo, hN⟩, b5⟩
    have L5 := hid (below_in L4.out (Nat.le_refl _) b5)
    have C5 := hid (blk_on C4.out b5)
    have I5 := hid (show InsIn w.heap.size w5 (.slice ia is.length ic) is from insIn_on (insIn_on HIv.out (X4.out.mono (by omega))) (b5.mono (by omega)))
    have hs5 := b5.size
    clear b5 p0 p1 p2 HIv L4 C4 X4
    have hF : Flow ⟨p, l, s, d, is⟩ ds := by
      rcases hdo with ⟨j, hj, _, c, hc, hF⟩ | ⟨_, hno⟩
      · obtain rfl : i = j := by omega
        simp only at hc
        rw [CH.out] at hc
        obtain rfl := Option.some.inj hc
        exact hF
      · exact absurd ⟨by omega, hil', CKP.out⟩ hno
    clear hdo
    replace SP := hid (SP.out ds hF)
    have hdl : ds.length = is.length := hF.1
    have hd0 : ds[0]? = some 0 := hF.2.1
    have FLW := hid hF
    clear hF
    obtain ⟨db, dof, dc, hv, hdb, hdat⟩ : ∃ db dof dc, v = .slice (some ⟨db, dof, none⟩) is.length dc ∧ db < w5.heap.size ∧ ∀ (k : Nat) x, ds[k]? = some x → w5.cell? ⟨db, dof + k, none⟩ = some (.int .i64 x) := by
      rcases hN with ⟨_, _, _, h⟩ | ⟨b, o, cap, h1, h2, h3⟩
      · rw [h] at hd0; simp at hd0
      · exact ⟨b, o, cap, by rw [h1, hdl], h2, h3⟩
    subst hv
    clear hN
    have DAT := hid (fun (W : World) (q : Below w5.heap.size w5 W) (k : Nat) x (hk : ds[k]? = some x) => cellB q (by simp only; omega) (hdat k x hk))
    have d00 : w5.cell? ⟨db, dof, none⟩ = some (.int .i64 0) := hdat 0 0 hd0
    clear hdat
    have HDL := hid hdl
    clear hdl hd0
    have BOX := hid (fun (W : World) (q : Below w5.heap.size w5 W) => (show W.cell? ⟨wo.heap.size, 0, none⟩ = some (.int .i64 p) ∧ W.cell? ⟨wo.heap.size, 1, none⟩ = some (.int .i64 l) ∧ W.cell? ⟨wo.heap.size, 2, none⟩ = some (.int .i64 s) ∧ W.cell? ⟨wo.heap.size, 3, none⟩ = some (.int .i64 d) ∧ W.cell? ⟨wo.heap.size, 4, none⟩ = some (.slice ia is.length ic) from
      have h := blk_on C5.out q
      ⟨blk_cellZ h 0 rfl, blk_cellZ h 1 rfl, blk_cellZ h 2 rfl, blk_cellZ h 3 rfl, blk_cellZ h 4 rfl⟩))
    have IAT := hid (fun (W : World) (q : Below w5.heap.size w5 W) (k : Nat) x (hk : is[k]? = some x) => insIn_at (insIn_on I5.out (q.mono (by omega))) hk)
    have TG := hid (fun (k : Int) (W : World) (q : Below w5.heap.size w5 W) => targets_calls w.heap.size ⟨p, l, s, d, is⟩ (.slice ia is.length ic) k W (Nat.le_trans (by omega) q.size) (insIn_on I5.out (q.mono (by omega))) hci)
    simp only [cdV] at TG
    obtain ⟨c0, c1, c2, c3, c4⟩ := BOX.out w5 (Below.refl _ _)
    have hn1' : (0 : Int) < (is.length : Int) := by omega
    go_wp2_with fail
    clear c0 c1 c2 c3 c4 d00
    go_loopw [6] (fun kV wq => ∃ k : Nat, k ≤ is.length ∧ kV = .int .i64 k ∧ Hid (Below w5.heap.size w5 wq)) (fun kV _ => is.length - (intOf kV).toNat)
    case atStart => exact ⟨0, by omega, rfl, hid (Below.refl _ _)⟩
    case round =>
      obtain ⟨k, hk, rfl, hR⟩ := hrel
      rename World => wq
      obtain ⟨c0, c1, c2, c3, c4⟩ := BOX.out wq hR.out
      by_cases hkl : k < is.length
      rotate_left 1
      · have hke : k = is.length := by omega
        subst hke
        have L6 := hid (L5.out.trans (hR.out.mono L5.out.size))
        go_wp2_with fail
        exact ⟨⟨i + 1, by omega, by simp, L6⟩, by simp [intOf]; omega⟩
      have hkl' : (k : Int) < (is.length : Int) := by omega
      obtain ⟨x, hx⟩ : ∃ x, is[k]? = some x := ⟨_, List.getElem?_eq_getElem hkl⟩
      obtain ⟨dk, hdk⟩ : ∃ dk, ds[k]? = some dk := ⟨_, List.getElem?_eq_getElem (by rw [HDL.out]; exact hkl)⟩
      have e0 := DAT.out wq hR.out k dk hdk
      by_cases hneg : dk < 0
      · go_wp2_with fail
        exact ⟨⟨k + 1, by omega, by simp, hR⟩, by simp [intOf]; omega⟩
      have hneg' : 0 ≤ dk := by omega
      obtain ⟨s1, s2, s3, s4, s5⟩ := SP.out k dk x hdk hneg' hx
      have S5 := hid s5
      clear s5 hneg
      obtain ⟨ib, iof, hia, hib, x0, x1, x2⟩ := IAT.out wq hR.out k x hx
      subst hia
      obtain ⟨o, a, bb⟩ := x
      simp only at x0 x1 x2 s1 s2 s4 S5
      have hE := effI_bound o a
      have EF := hid (effect_calls o a bb)
      generalize effI o a = E at *
      obtain ⟨P, U⟩ := E
      simp only at hE s1 s2 EF S5
      go_wp2_with fail
      refine (EF.out _).mono ?_
      rintro e w6 ⟨rfl, b6⟩
      have R6 := hid (below_in hR.out (Nat.le_refl _) b6)
      clear b6 x0 x1 x2 c0 c1 c2 c3 c4 e0
      obtain ⟨c0, c1, c2, c3, c4⟩ := BOX.out w6 R6.out
      go_wp2_with fail
      refine (TG.out (k : Int) _ R6.out).mono ?_
      rintro e w7 ⟨tv, rfl, g7, b7⟩
      rw [tgT_nat] at g7
      have R7 := hid (below_in R6.out (Nat.le_refl _) b7)
      clear b7 c0 c1 c2 c3 c4
      have hfewt := tg_few (is := is) (k := k)
      generalize tgL is k = tl at *
      obtain ⟨ta, hta⟩ : ∃ ta, tv = .slice ta tl.length tl.length := by
        rcases g7 with ⟨h1, h2⟩ | ⟨b, h1, _⟩
        · exact ⟨none, by rw [h1, h2]; rfl⟩
        · exact ⟨_, h1⟩
      subst hta
      have TAT := hid (fun (W : World) (q : Below w7.heap.size w7 W) (m : Nat) t (hm : tl[m]? = some t) => (show ∃ tb, ta = some ⟨tb, 0, none⟩ ∧ W.cell? ⟨tb, m, none⟩ = some (.int .i64 t) by
        rcases g7 with ⟨h1, h2⟩ | ⟨b, h1, _, h3⟩
        · rw [h2] at hm; simp at hm
        · injection h1 with h1
          exact ⟨b, h1, ir_cell (blk_on h3 q) hm⟩))
      clear g7
      obtain ⟨c0, c1, c2, c3, c4⟩ := BOX.out w7 R7.out
      have e0 := DAT.out w7 R7.out k dk hdk
      have q1 : 0 ≤ dk - P := by omega
      have q2 : dk - P ≤ 64 := by omega
      go_upto_region 16 with fail
      refine wp_region_held_drew (S := fun aZ => aZ.cell? ⟨db, dof + k, none⟩ = some (.int .i64 dk) ∧ aZ.cell? ⟨wo.heap.size, 3, none⟩ = some (.int .i64 d)) (by kernel_rfl) ?_ (fun hHeld => ?_)
      · (refine ⟨?_, ?_⟩ <;> go_simp)
      refine tkk 0 ?_
      refine tkk 1 ?_
      refine tkk 2 ?_
      refine tkk 3 ?_
      refine tkk 4 ?_
      refine tk 5 (v := .bool false) ?_ ?_
      · (intro w hSw; go_simp <;> (first | omega | (simp; omega)))
      refine tkk 6 ?_
      refine tkk 7 ?_
      refine tkk 8 ?_
      refine tkk 9 ?_
      refine tkk 10 ?_
      refine tkk 11 ?_
      refine tk 12 (v := .int .i64 (dk - P)) ?_ ?_
      · (intro w hSw; go_simp <;> (first | with_reducible rfl | (rw [IntKind.wrap_i64]; omega) | omega))
      refine tkk 13 ?_
      refine tk 14 (v := .int .i64 (dk - P + U)) ?_ ?_
      · (intro w hSw; go_simp <;> (first | with_reducible rfl | (rw [IntKind.wrap_i64]; omega) | omega))
      refine tkk 15 ?_
      refine tkk 16 ?_
      refine tk 17 (v := .bool false) ?_ ?_
      · (intro w hSw; go_simp <;> (first | omega | (simp; omega)))
      refine tkk 18 ?_
      refine wpAnyH_done (by kernel_rfl) ?_ _
      have W7 := hid (show Below w7.heap.size w7 _ from (Below.refl w7.heap.size w7).drew)
      go_wp2_with fail
      clear c0 c1 c2 c3 c4 e0
      go_loopw [10] (fun mV wz => ∃ m : Nat, m ≤ tl.length ∧ mV = .int .i64 m ∧ Hid (Below w7.heap.size w7 wz)) (fun mV _ => tl.length - (intOf mV).toNat)
      case atStart => exact ⟨0, by omega, rfl, W7⟩
      case round =>
        obtain ⟨m, hm, rfl, hZ⟩ := hrel
        rename World => wz
        have RZ := hid (below_in R7.out (Nat.le_refl _) hZ.out)
        by_cases hml : m < tl.length
        rotate_left 1
        · have hme : m = tl.length := by omega
          subst hme
          go_wp2_with fail
          exact ⟨⟨k + 1, by omega, by simp, RZ⟩, by simp [intOf]; omega⟩
        have hml' : (m : Int) < (tl.length : Int) := by omega
        obtain ⟨t, ht⟩ : ∃ t, tl[m]? = some t := ⟨_, List.getElem?_eq_getElem hml⟩
        obtain ⟨j, rfl, hjl, hdj, hback⟩ := S5.out m t ht
        obtain ⟨tb, hta, t0⟩ := TAT.out wz hZ.out m _ ht
        subst hta
        obtain ⟨c0, c1, c2, c3, c4⟩ := BOX.out wz RZ.out
        obtain ⟨ib', iof', he, hib', x0, x1, x2⟩ := IAT.out wz RZ.out k _ hx
        obtain ⟨rfl, rfl⟩ : ib' = ib ∧ iof' = iof := by
          injection he with he
          injection he with he1 he2
          exact ⟨he1.symm, he2.symm⟩
        simp only at x0
        clear x1 x2 he c0 c1 c2 c3
        have hjl' : (j : Int) < (is.length : Int) := by omega
        have KB := hid (show keepB o = ((o == 24) || (o == 25)) from rfl)
        generalize keepB o = kb at *
        go_upto_region 22 with fail
        go_cut [116] (fun v wx => v = .bool (decide (m = 1) && kb) ∧ wx = wz)
        case first =>
          by_cases hm1 : m = 1
          · have b0 : ((m : Int) == 1) = true := by rw [hm1]; rfl
            have hd1 : decide (m = 1) = true := by rw [hm1]; rfl
            clear hm1
            by_cases h24 : o = 24
            · subst h24
              have hkb : kb = true := KB.out
              subst hkb
              go_wp2_with fail
              go_meet
              exact ⟨by rw [hd1]; rfl, rfl⟩
            have b24 : (o == 24) = false := beq_eq_false_iff_ne.2 h24
            by_cases h25 : o = 25
            · subst h25
              have hkb : kb = true := KB.out
              subst hkb
              go_wp2_with fail
              go_meet
              exact ⟨by rw [hd1]; rfl, rfl⟩
            have b25 : (o == 25) = false := beq_eq_false_iff_ne.2 h25
            have hkb : kb = false := KB.out.trans (by rw [b24, b25]; rfl)
            subst hkb
            clear h24 h25
            go_wp2_with fail
            go_meet
            exact ⟨by rw [hd1]; rfl, rfl⟩
          · have b0 : ((m : Int) == 1) = false := beq_eq_false_iff_ne.2 (by omega)
            have hd1 : decide (m = 1) = false := decide_eq_false hm1
            clear hm1
            go_wp2_with fail
            go_meet
            exact ⟨by rw [hd1]; rfl, rfl⟩
        case rest =>
          obtain ⟨rfl, rfl⟩ := hcut
          generalize (decide (m = 1) && kb) = fl at *
          clear KB x0
          rename World => wz
          have hK01 : (0 : Int) ≤ (if fl = true then 1 else 0) ∧ (if fl = true then 1 else 0) ≤ (1 : Int) := by split <;> decide
          go_upto_if 116 with fail
          go_cut [11] (fun v wx => v = .int .i64 (if fl = true then 1 else 0) ∧ wx = wz)
          case first =>
            cases fl with
            | true =>
              go_wp2_with fail
              go_meet
              exact ⟨rfl, rfl⟩
            | false =>
              go_wp2_with fail
              go_meet
              exact ⟨rfl, rfl⟩
          case rest =>
            obtain ⟨rfl, rfl⟩ := hcut
            rename World => wz
            generalize (if fl = true then (1 : Int) else 0) = KP at *
            obtain ⟨z, hz⟩ : ∃ z, z = dk - P + U + KP := ⟨_, rfl⟩
            rw [← hz] at hdj
            have HZ := hid hz
            clear hz
            have z0 := DAT.out _ RZ.out j z hdj
            have z1 := DAT.out _ RZ.out k dk hdk
            by_cases hjk : j ≤ k
            · obtain ⟨⟨yo, ya, yb⟩, hy, hy1⟩ := hback hjk
              simp only at hy1
              subst hy1
              obtain ⟨ib2, iof2, he, _, y0, _, _⟩ := IAT.out _ RZ.out j _ hy
              obtain ⟨rfl, rfl⟩ : ib2 = ib' ∧ iof2 = iof' := by
                injection he with he
                injection he with he1 he2
                exact ⟨he1.symm, he2.symm⟩
              simp only at y0
              clear he hback
              as_aux_lemma =>
                go_upto_region 24 with fail
                refine wp_region_held_drew (S := fun aZ => aZ.cell? ⟨tb, m, none⟩ = some (.int .i64 (j : Int)) ∧ aZ.cell? ⟨wo.heap.size, 4, none⟩ = some (.slice (some ⟨ib2, iof2, none⟩) is.length ic) ∧ aZ.cell? ⟨db, dof + j, none⟩ = some (.int .i64 z) ∧ aZ.cell? ⟨db, dof + k, none⟩ = some (.int .i64 dk) ∧ aZ.cell? ⟨ib2, iof2 + j * 3, none⟩ = some (.int .i64 1)) (by kernel_rfl) ?_ (fun hHeld => ?_)
                · (refine ⟨?_, ?_, ?_, ?_, ?_⟩ <;> go_simp)
                refine tkk 0 ?_
                refine tkk 1 ?_
                refine tkk 2 ?_
                refine tkk 3 ?_
                refine tk 4 (v := .bool false) ?_ ?_
                · (intro w hSw; go_simp <;> (first | omega | (simp; omega)))
                refine tkk 5 ?_
                refine tkk 6 ?_
                refine tkk 7 ?_
                refine tkk 8 ?_
                refine tkk 9 ?_
                refine tkk 10 ?_
                refine tkk 11 ?_
                refine tkk 12 ?_
                refine tk 13 (v := .bool false) ?_ ?_
                · (intro w hSw; go_simp <;> (first | omega | (simp; omega)))
                refine tkk 14 ?_
                refine tkk 15 ?_
                refine tkk 16 ?_
                refine tkk 17 ?_
                refine tkk 18 ?_
                refine tkk 19 ?_
                refine tkk 20 ?_
                refine tkk 21 ?_
                refine tkk 22 ?_
                refine tkk 23 ?_
                refine tkk 24 ?_
                refine tkk 25 ?_
                refine tkk 26 ?_
                refine tkk 27 ?_
                refine tk 28 (v := .int .i64 (dk - P)) ?_ ?_
                · (intro w hSw; go_simp <;> (first | with_reducible rfl | (rw [IntKind.wrap_i64]; omega) | omega))
                refine tkk 29 ?_
                refine tk 30 (v := .int .i64 (dk - P + U)) ?_ ?_
                · (intro w hSw; go_simp <;> (first | with_reducible rfl | (rw [IntKind.wrap_i64]; omega) | omega))
                refine tkk 31 ?_
                refine tk 32 (v := .int .i64 z) ?_ ?_
                · (intro w hSw; go_simp <;> (first | with_reducible rfl | (have hz := HZ.out; rw [IntKind.wrap_i64]; congr 3; omega) | (have hz := HZ.out; omega)))
                refine tk 33 (v := .bool false) ?_ ?_
                · (intro w hSw; go_simp <;> (first | with_reducible rfl | simp))
                refine tkk 34 ?_
                refine tkk 35 ?_
                refine tkk 36 ?_
                refine tkk 37 ?_
                refine tkk 38 ?_
                refine tkk 39 ?_
                refine tkk 40 ?_
                refine tk 41 (v := .bool true) ?_ ?_
                · (intro w hSw; go_simp <;> (first | omega | (simp; omega)))
                refine tkk 42 ?_
                refine tkk 43 ?_
                refine tkk 44 ?_
                refine tkk 45 ?_
                refine tkk 46 ?_
                refine tkk 47 ?_
                refine tkk 48 ?_
                refine tkk 49 ?_
                refine tkk 50 ?_
                refine tkk 51 ?_
                refine tkk 52 ?_
                refine tkk 53 ?_
                refine tkk 54 ?_
                refine wpAnyH_done (by kernel_rfl) ?_ _
                go_wp2_with fail
                exact ⟨⟨m + 1, by omega, by simp, hid (by first | exact hZ.out | exact hZ.out.drew)⟩, by simp [intOf]; omega⟩
            · clear hback
              as_aux_lemma =>
                go_upto_region 24 with fail
                refine wp_region_held_drew (S := fun aZ => aZ.cell? ⟨tb, m, none⟩ = some (.int .i64 (j : Int)) ∧ aZ.cell? ⟨wo.heap.size, 4, none⟩ = some (.slice (some ⟨ib', iof', none⟩) is.length ic) ∧ aZ.cell? ⟨db, dof + j, none⟩ = some (.int .i64 z) ∧ aZ.cell? ⟨db, dof + k, none⟩ = some (.int .i64 dk)) (by kernel_rfl) ?_ (fun hHeld => ?_)
                · (refine ⟨?_, ?_, ?_, ?_⟩ <;> go_simp)
                refine tkk 0 ?_
                refine tkk 1 ?_
                refine tkk 2 ?_
                refine tkk 3 ?_
                refine tk 4 (v := .bool false) ?_ ?_
                · (intro w hSw; go_simp <;> (first | omega | (simp; omega)))
                refine tkk 5 ?_
                refine tkk 6 ?_
                refine tkk 7 ?_
                refine tkk 8 ?_
                refine tkk 9 ?_
                refine tkk 10 ?_
                refine tkk 11 ?_
                refine tkk 12 ?_
                refine tk 13 (v := .bool false) ?_ ?_
                · (intro w hSw; go_simp <;> (first | omega | (simp; omega)))
                refine tkk 14 ?_
                refine tkk 15 ?_
                refine tkk 16 ?_
                refine tkk 17 ?_
                refine tkk 18 ?_
                refine tkk 19 ?_
                refine tkk 20 ?_
                refine tkk 21 ?_
                refine tkk 22 ?_
                refine tkk 23 ?_
                refine tkk 24 ?_
                refine tkk 25 ?_
                refine tkk 26 ?_
                refine tkk 27 ?_
                refine tk 28 (v := .int .i64 (dk - P)) ?_ ?_
                · (intro w hSw; go_simp <;> (first | with_reducible rfl | (rw [IntKind.wrap_i64]; omega) | omega))
                refine tkk 29 ?_
                refine tk 30 (v := .int .i64 (dk - P + U)) ?_ ?_
                · (intro w hSw; go_simp <;> (first | with_reducible rfl | (rw [IntKind.wrap_i64]; omega) | omega))
                refine tkk 31 ?_
                refine tk 32 (v := .int .i64 z) ?_ ?_
                · (intro w hSw; go_simp <;> (first | with_reducible rfl | (have hz := HZ.out; rw [IntKind.wrap_i64]; congr 3; omega) | (have hz := HZ.out; omega)))
                refine tk 33 (v := .bool false) ?_ ?_
                · (intro w hSw; go_simp <;> (first | with_reducible rfl | simp))
                refine tkk 34 ?_
                refine tkk 35 ?_
                refine tkk 36 ?_
                refine tkk 37 ?_
                refine tkk 38 ?_
                refine tkk 39 ?_
                refine tkk 40 ?_
                refine tk 41 (v := .bool false) ?_ ?_
                · (intro w hSw; go_simp <;> (first | omega | (simp; omega)))
                refine tkk 42 ?_
                refine tks 43 ?_
                refine tks 44 ?_
                refine tks 45 ?_
                refine tks 46 ?_
                refine tks 47 ?_
                refine tks 48 ?_
                refine tks 49 ?_
                refine tks 50 ?_
                refine tks 51 ?_
                refine tks 52 ?_
                refine tkk 53 ?_
                refine tkk 54 ?_
                refine wpAnyH_done (by kernel_rfl) ?_ _
                go_wp2_with fail
                exact ⟨⟨m + 1, by omega, by simp, hid (by first | exact hZ.out | exact hZ.out.drew)⟩, by simp [intOf]; omega⟩

theorem walk (G0 : Int) (pv0 cv0 : Value) (ss0 : List ByteArray) (cs0 : List Cd) (w : World) (w0 : Hid ((PlIn w.heap.size w pv0 ss0 ∧ ∀ s ∈ ss0, s.size ≤ maxLen) ∧ CdsIn w.heap.size w cv0 cs0)) :
    Calls Try.prog 6 #[.agg #[.int .i64 G0, pv0, cv0]] w fun e w' => e = .returned (.bool true) ∧ Below w.heap.size w w' := by
  obtain ⟨pa, pc, rfl⟩ := plIn_shape w0.out.1.1
  obtain ⟨ca, cc, rfl⟩ := cdsIn_shape w0.out.2
  exact walk_safe G0 ss0 cs0 pa ca pc cc w w0.out.1.1 w0.out.1.2 w0.out.2

set_option maxRecDepth 100000 in
theorem lifted (os : Os) (started : os.Started) (H : Type) (enc : TypeId × Value → H) :
    ReturnsInHanded {} Try.checked os 6 .any (Rows.codeSafeSpec.pre6 enc Try.prog Try.f6 Rows.codeSafeRow.domain false) (Rows.codeSafeSpec.post enc Try.prog Try.f6 false true false false) := by
  refine returnsInHanded_of_change (C := Try.checked) own started (by kernel_rfl) Try.func6
    (ChangeSpec.witness6 (enc := enc) (C := Try.checked) false ⟨#[], #[.agg #[.int .i64 0, .slice none 0 0, .slice none 0 0]], []⟩ 8 (by kernel_rfl) (by kernel_rfl) (by kernel_rfl) (by kernel_rfl)) ?_
  intro W base args ds gs before hval0 hW hcnd _
  have hval : ∀ (j : Nat) t v, Try.f6.params[j]? = some t → args[j]? = some v → Value.okWide Try.prog W .any base t v := hval0
  have hW' := hW
  obtain ⟨p, q, hA0, hV, rfl, hfz, hnd⟩ := hW
  have hA : DataW.TrodAll enc Try.prog W 0 (fun _ => true) true Try.f6.params.toList args.toList ds p := hA0
  rw [Try.params6] at hA hval
  obtain ⟨v0, vs0, d0, ds0, p0, q0, hargs, rfl, rfl, h0, r0⟩ := trodAll_cons hA
  obtain ⟨rfl, rfl, rfl⟩ := trodAll_nil r0
  obtain rfl : args = #[v0] := by cases args; simp_all
  obtain ⟨rfl, rfl⟩ := trodVars_none hV
  have hk0 := h0
  have hlt0 : ∀ x ∈ p0, x.block < W.heap.size := fun x hx => by simpa using hW'.lt x (by simp [hx])
  obtain ⟨G0, pv0, cv0, ss0, cs0, rfl, w0⟩ := open_prog (hval 0 25 v0 rfl rfl) h0
  clear hA0 hval0
  refine (walk G0 pv0 cv0 ss0 cs0 W w0).mono fun e W' ⟨he, hg⟩ => ?_
  subst he
  exact ⟨_, rfl, _, _, _, [], _, [], hW', trodAll_mk1 (shut_bool Try.underlying4 _), (trodAll_cons_mk (Below.trod laidOutC (by kernel_rfl) (of_decide_eq_true (by kernel_rfl)) hk0 hg hlt0) trodAll_mk0), rfl, hg.frame _, fun h => by cases h⟩

theorem over : Rows.codeSafeRow.holds Try.pinned (OpenSpec.ofChange Rows.codeSafeSpec) :=
  OpenClaim.holds_of_wide 6 Try.f6 rfl rfl rfl rfl rfl rfl rfl ⟨rfl, rfl, rfl, rfl, rfl⟩ rfl rfl rfl rfl rfl (by kernel_rfl) Try.func6 (by kernel_rfl)
    (of_decide_eq_true (by kernel_rfl)) (by unfold Func.isWrapper; first | (rw [if_pos (by decide +kernel)]; kernel_rfl) | (rw [if_neg (by decide +kernel)]; exact ⟨rfl, rfl⟩))
    (fun os started H enc _ => lifted os started H enc)

end Go.Proofs.Ytciobggfefmgnaa.codeSafe
namespace Go.Proofs.Ytciobggfefmgnaa

/-- the statement, as it was given -/
theorem codeSafe_holds : Rows.CodeSafeSaid :=
  codeSafe.over
#print axioms codeSafe_holds
end Go.Proofs.Ytciobggfefmgnaa
