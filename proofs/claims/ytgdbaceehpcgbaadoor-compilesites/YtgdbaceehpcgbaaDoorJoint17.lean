/- A unit that is not too great, as the document asks. Few of a unit: all its nodes together. -/
import Derived.Test.YtgdbaceehpcgbaaDoorJoint5
import Derived.Test.YtgdbaceehpcgbaaDoorJoint8
import Derived.Test.YtgdbaceehpcgbaaDoorMapG
namespace Go.Proofs.YtgdbaceehpcgbaaDoor
set_option linter.unusedSimpArgs false
open Go.RowKit

theorem few_m (t : Nd) (B : Nat) (w : World) (nv kv : Value) (m : Int) (h0 : 0 ≤ m) (h1 : m ≤ 1000) (hB : B ≤ w.heap.size) (hN : Hid (NdIn B w t nv kv)) :
    Calls Tryd.prog 17 #[.agg #[.int .i64 t.kind, .int .i64 t.op, .int .i64 t.num, .string t.str, nv, kv, .int .i64 t.pl], .int .i64 m] w fun e w' =>
      e = .returned (.bool (decide (0 ≤ leftN t m 40))) ∧ Below w.heap.size w w' := by
  obtain ⟨a1, q1, a2, q2, rfl, rfl⟩ := ndIn_shape hN.out
  have b0 := (Below.refl w.heap.size w).alloc (Nat.le_refl _) (.cells #[.int .i64 t.kind, .int .i64 t.op, .int .i64 t.num, .string t.str, .slice a1 t.names.length q1, .slice a2 t.kids.length q2, .int .i64 t.pl] 47)
  have B0 := hid b0
  have N := hid (ndIn_on (b0.mono hB) _ _ _ hN.out)
  clear b0 hN
  go_enter Tryd.func17, Tryd.ntmps17
  go_wp2_with fail
  refine (left_calls t B _ _ _ m 40 (by simp; omega) N h0 h1 (by omega)).mono ?_
  rintro e w1 ⟨rfl, b1⟩
  have B1 := hid (below_in B0.out (by simp) b1)
  clear b1 B0 N
  go_wp2_with fail
  go_ret
  exact ⟨rfl, B1.out⟩
/-- functions with few nodes: as the document's Few has it -/
def FewV (fs : List Fq) : Prop := fs.length ≤ 40 ∧ ∀ f ∈ fs, f.2.2.length ≤ 60 ∧ ∀ x ∈ f.2.2, smallN x = true ∧ countN x ≤ 300
theorem all_more {α : Type} {P : α → Prop} {l : List α} {j : Nat} (hj : j < l.length) (h : ∀ (q : Nat) (hq : q < l.length), q < j → P l[q]) (h2 : P l[j]) : ∀ (q : Nat) (hq : q < l.length), q < j + 1 → P l[q] := fun q h1 h3 => by
  rcases Nat.lt_or_ge q j with h4 | h4
  · exact h q h1 h4
  · obtain rfl : q = j := by omega
    exact h2
theorem all_mem {α : Type} {P : α → Prop} {l : List α} (h : ∀ (q : Nat) (hq : q < l.length), q < l.length → P l[q]) : ∀ x ∈ l, P x := fun x hx => by
  obtain ⟨q, hq, rfl⟩ := List.getElem_of_mem hx
  exact h q hq hq
set_option maxRecDepth 100000 in
set_option maxHeartbeats 8000000 in
theorem ufew_calls (G : Int) (fv : Value) (fs : List Fq) (B : Nat) (w : World) (hB : B ≤ w.heap.size) (h1 : Hid (FnsIn B w fv fs)) :
    Calls Tryd.prog 8 #[.agg #[.int .i64 G, fv], .int .i64 300] w fun e w' => (∃ r : Bool, e = .returned (.bool r) ∧ (r = true → FewV fs)) ∧ Below w.heap.size w w' := by
  obtain ⟨fa, fc, rfl⟩ := fnsIn_shape h1.out
  have A := (Below.refl w.heap.size w).alloc (Nat.le_refl _) (.cells #[.int .i64 G, .slice fa fs.length fc] 24)
  have X := hid (blk_new w 24 #[.int .i64 G, .slice fa fs.length fc])
  have HA := hid A
  clear A
  by_cases hlen : fs.length ≤ 40
  case neg =>
    have hd : decide (40 < (fs.length : Int)) = true := decide_eq_true (by omega)
    go_enter Tryd.func8, Tryd.ntmps8
    go_wp2_with fail
    go_ret
    exact ⟨⟨false, rfl, fun h => by cases h⟩, HA.out⟩
  case pos =>
    have hd : decide (40 < (fs.length : Int)) = false := decide_eq_false (by omega)
    go_enter Tryd.func8, Tryd.ntmps8
    go_wp2_with fail
    generalize hW : w.alloc (.cells #[.int .i64 G, .slice fa fs.length fc] 24) = w2 at *
    clear hW hd
    have hz2 := HA.out.size
    go_loopw [1, 5] (fun mv i wr => ∃ (j : Nat) (m : Int), j ≤ fs.length ∧ i = .int .i64 j ∧ mv = .int .i64 m ∧ (0 ≤ m ∧ m ≤ 300) ∧ Hid (∀ (q : Nat) (hq : q < fs.length), q < j → fs[q].2.2.length ≤ 60 ∧ ∀ x ∈ fs[q].2.2, smallN x = true ∧ countN x ≤ 300) ∧ Hid (Below w2.heap.size w2 wr)) (fun _ i _ => fs.length - (intOf i).toNat)
    case atStart => exact ⟨0, 300, Nat.zero_le _, rfl, rfl, by omega, hid (fun q _ h => absurd h (Nat.not_lt_zero _)), hid (Below.refl _ _)⟩
    case round =>
      obtain ⟨j, m, hj, rfl, rfl, hm, hq, BB⟩ := hrel
      have c1 : wr.cell? ⟨w.heap.size, 1, none⟩ = some (.slice fa fs.length fc) := (blk_cell (blk_on X.out BB.out) 1).trans rfl
      by_cases hjl : j < fs.length
      · obtain ⟨b, off, hao, hbB, kv, d0, d1, d2, hk⟩ := fnsIn_at h1.out (List.getElem?_eq_getElem hjl)
        subst hao
        have hb0 := below_on HA.out BB.out
        have hb' := hb0.mono hB
        have e2 := cell_keep hb' hbB d2
        obtain ⟨ka, kc, rfl, hks⟩ := kidsIn_cases hk
        have K1 := hid hks
        have HQ := hid (fun h2 => all_more (P := fun f : Fq => f.2.2.length ≤ 60 ∧ ∀ x ∈ f.2.2, smallN x = true ∧ countN x ≤ 300) hjl hq.out h2)
        generalize fs[j] = f at *
        obtain ⟨p, q, l⟩ := f
        dsimp only at *
        have HB0 := hid hb0
        have D2 := hid d2
        clear hk hks hb' hb0 hq d0 d1 d2
        by_cases hl60 : l.length ≤ 60
        case neg =>
          have hd : decide (60 < (l.length : Int)) = true := decide_eq_true (by omega)
          go_wp2_with fail
          go_ret
          exact ⟨⟨false, rfl, fun h => by cases h⟩, HB0.out⟩
        case pos =>
          have hd : decide (60 < (l.length : Int)) = false := decide_eq_false (by omega)
          go_wp2_with fail
          clear hd c1 e2
          generalize wr = w3 at *
          go_loopw [1, 6] (fun mv i wr' => ∃ (i' : Nat) (m' : Int), i' ≤ l.length ∧ i = .int .i64 i' ∧ mv = .int .i64 m' ∧ (0 ≤ m' ∧ m' ≤ 300) ∧ Hid (∀ (q : Nat) (hq : q < l.length), q < i' → smallN l[q] = true ∧ countN l[q] ≤ 300) ∧ Hid (Below w3.heap.size w3 wr')) (fun _ i _ => l.length - (intOf i).toNat)
          case atStart => exact ⟨0, m, Nat.zero_le _, rfl, rfl, hm, hid (fun q _ h => absurd h (Nat.not_lt_zero _)), hid (Below.refl _ _)⟩
          case round =>
            obtain ⟨i', m', hi, rfl, rfl, hm', hq', BI⟩ := hrel
            have hbI := below_on HB0.out BI.out
            have HBI := hid hbI
            have hszI := hbI.size
            have c1 : wr.cell? ⟨w.heap.size, 1, none⟩ = some (.slice (some ⟨b, off, none⟩) fs.length fc) := (blk_cell (blk_on X.out (below_on BB.out BI.out)) 1).trans rfl
            have e2 := cell_keep (hbI.mono hB) hbB D2.out
            by_cases hil : i' < l.length
            · obtain ⟨b2, off2, rfl, hb2, hat⟩ := K1.out.resolve_left (fun h => by rw [h] at hil; cases hil)
              obtain ⟨nv1, kv1, hnode, hin⟩ := ndsAt_get hat i' hil
              obtain ⟨g0, g1, g2, g3, g4, g5, g6⟩ := nodeAt_on hnode hb2 (hbI.mono hB)
              have HIN := hid hin
              have HND := hid hnode
              have cl := hid (few_m l[i'] B wr nv1 kv1 m' hm'.1 (by omega) (by omega) (hid (ndIn_on (hbI.mono hB) _ _ _ hin)))
              have HQ2 := hid (fun h2 => all_more (P := fun x : Nd => smallN x = true ∧ countN x ≤ 300) hil hq'.out h2)
              generalize l[i'] = x at *
              obtain ⟨a1, z1, a2, z2, rfl, rfl⟩ := ndIn_shape hin
              clear hin hnode hat hq' hbI
              go_wp2_with fail
              refine cl.out.mono ?_
              rintro e4 w4 ⟨rfl, b4⟩
              have B4 := hid (below_on BI.out b4)
              have HB4 := hid (below_on HBI.out b4)
              clear b4 cl c1 e2 g0 g1 g2 g3 g4 g5 g6
              cases hlv : decide (0 ≤ leftN x m' 40)
              · clear hlv
                go_wp2_with fail
                go_ret
                exact ⟨⟨false, rfl, fun h => by cases h⟩, HB4.out⟩
              · obtain ⟨k1, k2, k3⟩ := leftN_count x m' 40 (of_decide_eq_true hlv)
                have k4 : 0 ≤ m' - (countN x : Int) := by rw [← k1]; exact of_decide_eq_true hlv
                have c1 : w4.cell? ⟨w.heap.size, 1, none⟩ = some (.slice (some ⟨b, off, none⟩) fs.length fc) := (blk_cell (blk_on X.out (below_on BB.out B4.out)) 1).trans rfl
                have e2 := cell_keep (HB4.out.mono hB) hbB D2.out
                obtain ⟨g0, g1, g2, g3, g4, g5, g6⟩ := nodeAt_on HND.out hb2 (HB4.out.mono hB)
                have hz4 := HB4.out.size
                have CN := hid (refcount_calls x B w4 _ _ (by omega) (hid (ndIn_on (HB4.out.mono hB) _ _ _ HIN.out)) (by omega))
                clear hlv k1 k2
                generalize countN x = cx at *
                go_wp2_with fail
                refine CN.out.mono ?_
                rintro e5 w5 ⟨rfl, b5⟩
                have B5 := hid (below_on B4.out b5)
                clear b5 CN
                go_wp2_with fail
                go_roundw
                case rel => exact ⟨i' + 1, m' - cx, by omega, by go_num, by go_num, by omega, hid (HQ2.out ⟨k3, by omega⟩), B5⟩
                case measure => simp [intOf]; omega
            · have hie : i' = l.length := by omega
              subst hie
              have H2 := hid (HQ.out ⟨hl60, all_mem (P := fun x : Nd => smallN x = true ∧ countN x ≤ 300) (fun q h1 _ => hq'.out q h1 (by omega))⟩)
              clear hbI hq'
              go_wp2_with fail
              go_roundw
              case rel => exact ⟨j + 1, m', by omega, by go_num, rfl, hm', H2, hid (below_on BB.out BI.out)⟩
              case measure => simp [intOf]; omega
      · have H := hid (show FewV fs from ⟨hlen, all_mem (fun q hq1 _ => hq.out q hq1 (by omega))⟩)
        have hje : j = fs.length := by omega
        subst hje
        have hd : decide (0 ≤ m) = true := decide_eq_true hm.1
        clear hq
        go_wp2_with fail
        go_ret
        exact ⟨⟨true, rfl, fun _ => H.out⟩, below_on HA.out BB.out⟩

end Go.Proofs.YtgdbaceehpcgbaaDoor

namespace Go.Proofs.YtgdbaceehpcgbaaDoor
set_option linter.unusedSimpArgs false
open Go.RowKit

/-- how many nodes there are -/
def cntU (fs : List Fq) : Nat := (fs.map fun f => countL f.2.2).sum
theorem cntU_take {fs : List Fq} {j : Nat} (h : j < fs.length) : cntU (fs.take (j + 1)) = cntU (fs.take j) + countL fs[j].2.2 := by
  unfold cntU
  rw [take_one fs j h, List.map_append, List.sum_append]
  simp
def FewT (fs : List Fq) : Prop := FewV fs ∧ cntU fs ≤ 300
set_option maxRecDepth 100000 in
set_option maxHeartbeats 8000000 in
theorem ufewt_calls (G : Int) (fv : Value) (fs : List Fq) (B : Nat) (w : World) (hB : B ≤ w.heap.size) (h1 : Hid (FnsIn B w fv fs)) :
    Calls Tryd.prog 8 #[.agg #[.int .i64 G, fv], .int .i64 300] w fun e w' => (∃ r : Bool, e = .returned (.bool r) ∧ (r = true → FewT fs)) ∧ Below w.heap.size w w' := by
  obtain ⟨fa, fc, rfl⟩ := fnsIn_shape h1.out
  have A := (Below.refl w.heap.size w).alloc (Nat.le_refl _) (.cells #[.int .i64 G, .slice fa fs.length fc] 24)
  have X := hid (blk_new w 24 #[.int .i64 G, .slice fa fs.length fc])
  have HA := hid A
  clear A
  by_cases hlen : fs.length ≤ 40
  case neg =>
    have hd : decide (40 < (fs.length : Int)) = true := decide_eq_true (by omega)
    go_enter Tryd.func8, Tryd.ntmps8
    go_wp2_with fail
    go_ret
    exact ⟨⟨false, rfl, fun h => by cases h⟩, HA.out⟩
  case pos =>
    have hd : decide (40 < (fs.length : Int)) = false := decide_eq_false (by omega)
    go_enter Tryd.func8, Tryd.ntmps8
    go_wp2_with fail
    generalize hW : w.alloc (.cells #[.int .i64 G, .slice fa fs.length fc] 24) = w2 at *
    clear hW hd
    have hz2 := HA.out.size
    go_loopw [1, 5] (fun mv i wr => ∃ (j : Nat) (m : Int), j ≤ fs.length ∧ i = .int .i64 j ∧ mv = .int .i64 m ∧ (0 ≤ m ∧ m ≤ 300) ∧ Hid (∀ (q : Nat) (hq : q < fs.length), q < j → fs[q].2.2.length ≤ 60 ∧ ∀ x ∈ fs[q].2.2, smallN x = true ∧ countN x ≤ 300) ∧ Hid (m + (cntU (fs.take j) : Int) ≤ 300) ∧ Hid (Below w2.heap.size w2 wr)) (fun _ i _ => fs.length - (intOf i).toNat)
    case atStart => exact ⟨0, 300, Nat.zero_le _, rfl, rfl, by omega, hid (fun q _ h => absurd h (Nat.not_lt_zero _)), hid (by simp [cntU]), hid (Below.refl _ _)⟩
    case round =>
      obtain ⟨j, m, hj, rfl, rfl, hm, hq, SM, BB⟩ := hrel
      have c1 : wr.cell? ⟨w.heap.size, 1, none⟩ = some (.slice fa fs.length fc) := (blk_cell (blk_on X.out BB.out) 1).trans rfl
      by_cases hjl : j < fs.length
      · obtain ⟨b, off, hao, hbB, kv, d0, d1, d2, hk⟩ := fnsIn_at h1.out (List.getElem?_eq_getElem hjl)
        subst hao
        have hb0 := below_on HA.out BB.out
        have hb' := hb0.mono hB
        have e2 := cell_keep hb' hbB d2
        obtain ⟨ka, kc, rfl, hks⟩ := kidsIn_cases hk
        have K1 := hid hks
        have HQ := hid (fun h2 => all_more (P := fun f : Fq => f.2.2.length ≤ 60 ∧ ∀ x ∈ f.2.2, smallN x = true ∧ countN x ≤ 300) hjl hq.out h2)
        have HC := hid (cntU_take hjl)
        generalize fs[j] = f at *
        obtain ⟨p, q, l⟩ := f
        dsimp only at *
        have HB0 := hid hb0
        have D2 := hid d2
        clear hk hks hb' hb0 hq d0 d1 d2
        by_cases hl60 : l.length ≤ 60
        case neg =>
          have hd : decide (60 < (l.length : Int)) = true := decide_eq_true (by omega)
          go_wp2_with fail
          go_ret
          exact ⟨⟨false, rfl, fun h => by cases h⟩, HB0.out⟩
        case pos =>
          have hd : decide (60 < (l.length : Int)) = false := decide_eq_false (by omega)
          go_wp2_with fail
          clear hd c1 e2
          generalize wr = w3 at *
          go_loopw [1, 6] (fun mv i wr' => ∃ (i' : Nat) (m' : Int), i' ≤ l.length ∧ i = .int .i64 i' ∧ mv = .int .i64 m' ∧ (0 ≤ m' ∧ m' ≤ 300) ∧ Hid (∀ (q : Nat) (hq : q < l.length), q < i' → smallN l[q] = true ∧ countN l[q] ≤ 300) ∧ Hid (m' + (cntU (fs.take j) : Int) + (countL (l.take i') : Int) ≤ 300) ∧ Hid (Below w3.heap.size w3 wr')) (fun _ i _ => l.length - (intOf i).toNat)
          case atStart => exact ⟨0, m, Nat.zero_le _, rfl, rfl, hm, hid (fun q _ h => absurd h (Nat.not_lt_zero _)), hid (by simpa [countL] using SM.out), hid (Below.refl _ _)⟩
          case round =>
            obtain ⟨i', m', hi, rfl, rfl, hm', hq', SI, BI⟩ := hrel
            have hbI := below_on HB0.out BI.out
            have HBI := hid hbI
            have hszI := hbI.size
            have c1 : wr.cell? ⟨w.heap.size, 1, none⟩ = some (.slice (some ⟨b, off, none⟩) fs.length fc) := (blk_cell (blk_on X.out (below_on BB.out BI.out)) 1).trans rfl
            have e2 := cell_keep (hbI.mono hB) hbB D2.out
            by_cases hil : i' < l.length
            · obtain ⟨b2, off2, rfl, hb2, hat⟩ := K1.out.resolve_left (fun h => by rw [h] at hil; cases hil)
              obtain ⟨nv1, kv1, hnode, hin⟩ := ndsAt_get hat i' hil
              obtain ⟨g0, g1, g2, g3, g4, g5, g6⟩ := nodeAt_on hnode hb2 (hbI.mono hB)
              have HIN := hid hin
              have HND := hid hnode
              have cl := hid (few_m l[i'] B wr nv1 kv1 m' hm'.1 (by omega) (by omega) (hid (ndIn_on (hbI.mono hB) _ _ _ hin)))
              have HQ2 := hid (fun h2 => all_more (P := fun x : Nd => smallN x = true ∧ countN x ≤ 300) hil hq'.out h2)
              have HT := hid (show countL (l.take (i' + 1)) = countL (l.take i') + countN l[i'] by rw [take_one l i' hil, countL_snoc])
              generalize l[i'] = x at *
              obtain ⟨a1, z1, a2, z2, rfl, rfl⟩ := ndIn_shape hin
              clear hin hnode hat hq' hbI
              go_wp2_with fail
              refine cl.out.mono ?_
              rintro e4 w4 ⟨rfl, b4⟩
              have B4 := hid (below_on BI.out b4)
              have HB4 := hid (below_on HBI.out b4)
              clear b4 cl c1 e2 g0 g1 g2 g3 g4 g5 g6
              cases hlv : decide (0 ≤ leftN x m' 40)
              · clear hlv
                go_wp2_with fail
                go_ret
                exact ⟨⟨false, rfl, fun h => by cases h⟩, HB4.out⟩
              · obtain ⟨k1, k2, k3⟩ := leftN_count x m' 40 (of_decide_eq_true hlv)
                have k4 : 0 ≤ m' - (countN x : Int) := by rw [← k1]; exact of_decide_eq_true hlv
                have c1 : w4.cell? ⟨w.heap.size, 1, none⟩ = some (.slice (some ⟨b, off, none⟩) fs.length fc) := (blk_cell (blk_on X.out (below_on BB.out B4.out)) 1).trans rfl
                have e2 := cell_keep (HB4.out.mono hB) hbB D2.out
                obtain ⟨g0, g1, g2, g3, g4, g5, g6⟩ := nodeAt_on HND.out hb2 (HB4.out.mono hB)
                have hz4 := HB4.out.size
                have CN := hid (refcount_calls x B w4 _ _ (by omega) (hid (ndIn_on (HB4.out.mono hB) _ _ _ HIN.out)) (by omega))
                have SJ := hid (show m' - (countN x : Int) + (cntU (fs.take j) : Int) + (countL (l.take (i' + 1)) : Int) ≤ 300 by have h1 := SI.out; have h2 := HT.out; omega)
                clear hlv k1 k2 HT
                generalize countN x = cx at *
                go_wp2_with fail
                refine CN.out.mono ?_
                rintro e5 w5 ⟨rfl, b5⟩
                have B5 := hid (below_on B4.out b5)
                clear b5 CN
                go_wp2_with fail
                go_roundw
                case rel => exact ⟨i' + 1, m' - cx, by omega, by go_num, by go_num, by omega, hid (HQ2.out ⟨k3, by omega⟩), SJ, B5⟩
                case measure => simp [intOf]; omega
            · have hie : i' = l.length := by omega
              subst hie
              have H2 := hid (HQ.out ⟨hl60, all_mem (P := fun x : Nd => smallN x = true ∧ countN x ≤ 300) (fun q h1 _ => hq'.out q h1 (by omega))⟩)
              have SO := hid (show m' + (cntU (fs.take (j + 1)) : Int) ≤ 300 by have h1 := SI.out; have h2 := HC.out; simp only [List.take_length] at h1; omega)
              clear hbI hq'
              go_wp2_with fail
              go_roundw
              case rel => exact ⟨j + 1, m', by omega, by go_num, rfl, hm', H2, SO, hid (below_on BB.out BI.out)⟩
              case measure => simp [intOf]; omega
      · have hje : j = fs.length := by omega
        subst hje
        have H := hid (show FewT fs from ⟨⟨hlen, all_mem (fun q hq1 _ => hq.out q hq1 (by omega))⟩, by have h := SM.out; rw [List.take_length] at h; omega⟩)
        have hd : decide (0 ≤ m) = true := decide_eq_true hm.1
        clear hq
        go_wp2_with fail
        go_ret
        exact ⟨⟨true, rfl, fun _ => H.out⟩, below_on HA.out BB.out⟩

end Go.Proofs.YtgdbaceehpcgbaaDoor

