/- How many functions there are in a tree. -/
import Derived.Test.YteoghacpdfnijaaDoorScMay
import Derived.Test.YteoghacpdfnijaaDoorNdMem
import Derived.Test.YteoghacpdfnijaaDoorMapG
import Derived.Test.YteoghacpdfnijaaDoorScDecl
namespace Go.Proofs.YteoghacpdfnijaaDoor
set_option linter.unusedSimpArgs false
open Go.RowKit

theorem cntFL_snoc : ∀ (l : List Nd) (x : Nd), cntFL (l ++ [x]) = cntFL l + cntF x
  | [], x => by simp [cntFL]
  | y :: r, x => by rw [List.cons_append, cntFL, cntFL, cntFL_snoc r x]; omega
mutual
theorem cntF_le : ∀ (t : Nd), cntF t ≤ countN t
  | .mk k o n s ns ks p => by
    rw [cntF, countN]
    have := cntFL_le ks
    split <;> omega
theorem cntFL_le : ∀ (l : List Nd), cntFL l ≤ countL l
  | [] => by rw [cntFL, countL]; omega
  | x :: r => by
    rw [cntFL, countL]
    have := cntF_le x
    have := cntFL_le r
    omega
end
def CntAt (t : Nd) : Prop := ∀ (B : Nat) (w : World) (nv kv : Value), B ≤ w.heap.size → Hid (NdIn B w t nv kv) → countN t ≤ 1000000 →
    Calls Tryd.prog 16 #[.agg #[.int .i64 t.kind, .int .i64 t.op, .int .i64 t.num, .string t.str, nv, kv, .int .i64 t.pl]] w fun e w' => e = .returned (.int .i64 (cntF t)) ∧ Below w.heap.size w w'
set_option maxHeartbeats 4000000 in
theorem cnt_of (k o n : Int) (s : ByteArray) (ns : List ByteArray) (ks : List Nd) (p : Int) (ih : ∀ x ∈ ks, CntAt x) : CntAt (.mk k o n s ns ks p) := by
  intro B w nv kv hB hN hc
  obtain ⟨h1, h2⟩ := ndIn_mk.1 hN.out
  obtain ⟨na, nc, rfl, _⟩ := strsIn_cases h1
  obtain ⟨ka, kc, rfl, hks⟩ := kidsIn_cases h2
  have K1 := hid hks
  have hcl : countL ks + 1 ≤ 1000000 := by rw [countN] at hc; omega
  have hlen := countL_len ks
  simp only [Nd.kind, Nd.op, Nd.num, Nd.str, Nd.pl]
  have A := (Below.refl w.heap.size w).alloc (Nat.le_refl _) (.cells #[.int .i64 k, .int .i64 o, .int .i64 n, .string s, .slice na ns.length nc, .slice ka ks.length kc, .int .i64 p] 25)
  have X := hid (blk_new w 25 #[.int .i64 k, .int .i64 o, .int .i64 n, .string s, .slice na ns.length nc, .slice ka ks.length kc, .int .i64 p])
  have HA := hid A
  have HIH := hid ih
  clear A ih h1 h2 hks hN
  have H := hid (show cntF (.mk k o n s ns ks p) = (if k = 8 then 1 else 0) + cntFL ks by rw [cntF])
  obtain ⟨c, hcc⟩ : ∃ c : Nat, (if k = 8 then 1 else 0) = c := ⟨_, rfl⟩
  have hc1 : c ≤ 1 := by rw [← hcc]; split <;> omega
  rw [hcc] at H
  have ways : (k == 8) = true ∧ c = 1 ∨ (k == 8) = false ∧ c = 0 := by
    rw [← hcc]
    by_cases h : k = 8
    · left; simp [h]
    · right; simp [h]
  clear hcc
  have W0 : ∃ w0 : World, w.alloc (.cells #[.int .i64 k, .int .i64 o, .int .i64 n, .string s, .slice na ns.length nc, .slice ka ks.length kc, .int .i64 p] 25) = w0 := ⟨_, rfl⟩
  rcases ways with ⟨h8, rfl⟩ | ⟨h8, rfl⟩
  · go_enter Tryd.func16, Tryd.ntmps16
    go_wp2_with fail
    obtain ⟨w0, hw0⟩ := W0
    rw [hw0] at X HA ⊢
    clear hw0
    go_loopw [3, 4] (fun v i wr => ∃ j : Nat, j ≤ ks.length ∧ i = .int .i64 j ∧ v = .int .i64 ((1 + cntFL (ks.take j) : Nat) : Int) ∧ Hid (Below w0.heap.size w0 wr)) (fun _ i _ => ks.length - (intOf i).toNat)
    case atStart => exact ⟨0, Nat.zero_le _, rfl, by simp [cntFL], hid (Below.refl _ _)⟩
    case round =>
      obtain ⟨j, hj, rfl, rfl, BB⟩ := hrel
      have y := blk_on X.out BB.out
      have c5 : wr.cell? ⟨w.heap.size, 5, none⟩ = some (.slice ka ks.length kc) := (blk_cell y 5).trans rfl
      clear y
      by_cases hjl : j < ks.length
      · obtain ⟨b, off, rfl, hbB, hat⟩ := K1.out.resolve_left (fun h => by rw [h] at hjl; cases hjl)
        obtain ⟨nv1, kv1, hnode, hin⟩ := ndsAt_get hat j hjl
        have hb' := (below_on HA.out BB.out).mono hB
        obtain ⟨d0, d1, d2, d3, d4, d5, d6⟩ := nodeAt_on hnode hbB hb'
        have hm := count_mem (List.getElem_mem hjl)
        have hsz := (below_on HA.out BB.out).size
        have cl := hid (HIH.out ks[j] (List.getElem_mem hjl) B wr nv1 kv1 (by omega) (hid (ndIn_on hb' _ _ _ hin)) (by omega))
        have hS := hid (show cntFL (ks.take (j + 1)) = cntFL (ks.take j) + cntF ks[j] by rw [List.take_succ_eq_append_getElem hjl, cntFL_snoc])
        have q1 := cntFL_le (ks.take (j + 1))
        have q2 := countL_take ks (j + 1)
        have hle : cntFL (ks.take j) + cntF ks[j] ≤ 1000000 := by rw [← hS.out]; omega
        generalize cntFL (ks.take j) = m at *
        generalize ks[j] = x at *
        obtain ⟨a1, z1, a2, z2, rfl, rfl⟩ := ndIn_shape hin
        clear hin hnode hat hb' q1 q2 hm hsz
        go_wp2_with fail
        refine cl.out.mono ?_
        rintro e w1 ⟨rfl, b1⟩
        have B1 := hid (below_on BB.out b1)
        clear b1 BB cl
        generalize cntF x = cx at *
        go_wp2_with fail
        go_roundw
        case rel => exact ⟨j + 1, by omega, by go_num, by rw [hS.out]; go_num, B1⟩
        case measure => simp [intOf]; omega
      · have hje : j = ks.length := by omega
        subst hje
        go_wp2_with fail
        go_ret
        exact ⟨by rw [H.out, List.take_length]; rfl, below_on HA.out BB.out⟩
  · go_enter Tryd.func16, Tryd.ntmps16
    go_wp2_with fail
    obtain ⟨w0, hw0⟩ := W0
    rw [hw0] at X HA ⊢
    clear hw0
    go_loopw [3, 4] (fun v i wr => ∃ j : Nat, j ≤ ks.length ∧ i = .int .i64 j ∧ v = .int .i64 ((0 + cntFL (ks.take j) : Nat) : Int) ∧ Hid (Below w0.heap.size w0 wr)) (fun _ i _ => ks.length - (intOf i).toNat)
    case atStart => exact ⟨0, Nat.zero_le _, rfl, by simp [cntFL], hid (Below.refl _ _)⟩
    case round =>
      obtain ⟨j, hj, rfl, rfl, BB⟩ := hrel
      have y := blk_on X.out BB.out
      have c5 : wr.cell? ⟨w.heap.size, 5, none⟩ = some (.slice ka ks.length kc) := (blk_cell y 5).trans rfl
      clear y
      by_cases hjl : j < ks.length
      · obtain ⟨b, off, rfl, hbB, hat⟩ := K1.out.resolve_left (fun h => by rw [h] at hjl; cases hjl)
        obtain ⟨nv1, kv1, hnode, hin⟩ := ndsAt_get hat j hjl
        have hb' := (below_on HA.out BB.out).mono hB
        obtain ⟨d0, d1, d2, d3, d4, d5, d6⟩ := nodeAt_on hnode hbB hb'
        have hm := count_mem (List.getElem_mem hjl)
        have hsz := (below_on HA.out BB.out).size
        have cl := hid (HIH.out ks[j] (List.getElem_mem hjl) B wr nv1 kv1 (by omega) (hid (ndIn_on hb' _ _ _ hin)) (by omega))
        have hS := hid (show cntFL (ks.take (j + 1)) = cntFL (ks.take j) + cntF ks[j] by rw [List.take_succ_eq_append_getElem hjl, cntFL_snoc])
        have q1 := cntFL_le (ks.take (j + 1))
        have q2 := countL_take ks (j + 1)
        have hle : cntFL (ks.take j) + cntF ks[j] ≤ 1000000 := by rw [← hS.out]; omega
        generalize cntFL (ks.take j) = m at *
        generalize ks[j] = x at *
        obtain ⟨a1, z1, a2, z2, rfl, rfl⟩ := ndIn_shape hin
        clear hin hnode hat hb' q1 q2 hm hsz
        go_wp2_with fail
        refine cl.out.mono ?_
        rintro e w1 ⟨rfl, b1⟩
        have B1 := hid (below_on BB.out b1)
        clear b1 BB cl
        generalize cntF x = cx at *
        go_wp2_with fail
        go_roundw
        case rel => exact ⟨j + 1, by omega, by go_num, by rw [hS.out]; go_num, B1⟩
        case measure => simp [intOf]; omega
      · have hje : j = ks.length := by omega
        subst hje
        go_wp2_with fail
        go_ret
        exact ⟨by rw [H.out, List.take_length]; rfl, below_on HA.out BB.out⟩
theorem functions_calls (t : Nd) : CntAt t := by
  refine Nd.ind (P := CntAt) ?_ t
  intro k o n s ns ks p ih
  exact cnt_of k o n s ns ks p ih

end Go.Proofs.YteoghacpdfnijaaDoor
