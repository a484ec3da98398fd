/- Objects of slots: what they tell. -/
import Derived.Test.YtemidicgipebjaaGreatHpMem
namespace Go.Proofs.YtemidicgipebjaaGreat
set_option linter.unusedSimpArgs false
set_option maxRecDepth 100000
open Go.RowKit

set_option maxHeartbeats 1000000 in
theorem sown_calls {H : He} {c n f q : Nat} {col : Nat → Nat} {sh : Int} {l : List Ent} {v : Value} (w : World) (C : Cls H c n f col w) (h : SlAt c sh l q v w) (s : ByteArray) (hs : s.size ≤ 1000000) :
    Calls Tryz.prog 161 #[.pointer (some ⟨q, 0, none⟩), .string s] w fun e w' => e = .returned (.tuple #[vlV (vlO (slotL l (slotN H.N H.L sh s))), .bool (slotL l (slotN H.N H.L sh s)).isSome]) ∧ Below w.heap.size w w' := by
  obtain ⟨c0, c1, c2, hq⟩ := h.cells
  have hqn : q ≠ w.heap.size := by omega
  have A := (Below.refl w.heap.size w).alloc (Nat.le_refl _) (Obj.cells #[.int .i64 0, .int .i64 0, .string ⟨#[]⟩] 26)
  have HA := hid A.drew
  have HH := hid (h.on A.drew)
  have hS := hid (slot_on (slot_new w rfl 26) (Below.refl _ _).drew)
  have HSl := hid (cslot_calls _ (C.on A.drew) sh s hs)
  clear h C A
  generalize slotN H.N H.L sh s = i at *
  unfold vlV
  go_enter Tryz.func161, Tryz.ntmps161
  go_wp2_with fail
  refine wp_region_held_drew (S := fun a => a.cell? ⟨q, 0, none⟩ = some (.pointer (some ⟨c, 0, none⟩)) ∧ a.cell? ⟨q, 1, none⟩ = some (.int .i64 sh)) (by kernel_rfl) ?_ (fun hHeld => ?_)
  · (refine ⟨?_, ?_⟩ <;> go_simp)
  refine wpAnyH_take (i := 0) (v := ?v1) rfl (by kernel_rfl) (by kernel_rfl) (by kernel_rfl) (fun _ _ _ h => h) (Or.inl ⟨by rfl, ?hy1⟩) (by assumption) ?_
  case hy1 => (intro w hSw; go_simp <;> (try with_reducible rfl))
  simp only [Act.put, List.setIfInBounds_toArray, List.set_cons_zero, List.set_cons_succ, List.getElem_toArray, List.getElem_cons_succ, List.getElem_cons_zero]
  refine wpAnyH_take (i := 1) (v := ?v2) rfl (by kernel_rfl) (by kernel_rfl) (by kernel_rfl) (fun _ _ _ h => h) (Or.inl ⟨by rfl, ?hy2⟩) (by assumption) ?_
  case hy2 => (intro w hSw; go_simp <;> (try with_reducible rfl))
  simp only [Act.put, List.setIfInBounds_toArray, List.set_cons_zero, List.set_cons_succ, List.getElem_toArray, List.getElem_cons_succ, List.getElem_cons_zero]
  refine wpAnyH_take (i := 2) (v := ?v3) rfl (by kernel_rfl) (by kernel_rfl) (by kernel_rfl) (fun _ _ _ h => h) (Or.inl ⟨by rfl, ?hy3⟩) (by assumption) ?_
  case hy3 => (intro w hSw; go_simp <;> (try with_reducible rfl))
  simp only [Act.put, List.setIfInBounds_toArray, List.set_cons_zero, List.set_cons_succ, List.getElem_toArray, List.getElem_cons_succ, List.getElem_cons_zero]
  refine wpAnyH_take (i := 3) (v := ?v4) rfl (by kernel_rfl) (by kernel_rfl) (by kernel_rfl) (fun _ _ _ h => h) (Or.inl ⟨by rfl, ?hy4⟩) (by assumption) ?_
  case hy4 => (intro w hSw; go_simp <;> (try with_reducible rfl))
  simp only [Act.put, List.setIfInBounds_toArray, List.set_cons_zero, List.set_cons_succ, List.getElem_toArray, List.getElem_cons_succ, List.getElem_cons_zero]
  refine wpAnyH_take (i := 4) (v := ?v5) rfl (by kernel_rfl) (by kernel_rfl) (by kernel_rfl) (fun _ _ _ h => h) (Or.inl ⟨by rfl, ?hy5⟩) (by assumption) ?_
  case hy5 => (intro w hSw; go_simp <;> (try with_reducible rfl))
  simp only [Act.put, List.setIfInBounds_toArray, List.set_cons_zero, List.set_cons_succ, List.getElem_toArray, List.getElem_cons_succ, List.getElem_cons_zero]
  refine wpAnyH_take (i := 5) (v := ?v6) rfl (by kernel_rfl) (by kernel_rfl) (by kernel_rfl) (fun _ _ _ h => h) (Or.inl ⟨by rfl, ?hy6⟩) (by assumption) ?_
  case hy6 => (intro w hSw; go_simp <;> (try with_reducible rfl))
  simp only [Act.put, List.setIfInBounds_toArray, List.set_cons_zero, List.set_cons_succ, List.getElem_toArray, List.getElem_cons_succ, List.getElem_cons_zero]
  refine wpAnyH_take (i := 6) (v := ?v7) rfl (by kernel_rfl) (by kernel_rfl) (by kernel_rfl) (fun _ _ _ h => h) (Or.inl ⟨by rfl, ?hy7⟩) (by assumption) ?_
  case hy7 => (intro w hSw; go_simp <;> (try with_reducible rfl))
  simp only [Act.put, List.setIfInBounds_toArray, List.set_cons_zero, List.set_cons_succ, List.getElem_toArray, List.getElem_cons_succ, List.getElem_cons_zero]
  refine wpAnyH_take (i := 7) (v := ?v8) rfl (by kernel_rfl) (by kernel_rfl) (by kernel_rfl) (fun _ _ _ h => h) (Or.inl ⟨by rfl, ?hy8⟩) (by assumption) ?_
  case hy8 => (intro w hSw; go_simp <;> (try with_reducible rfl))
  simp only [Act.put, List.setIfInBounds_toArray, List.set_cons_zero, List.set_cons_succ, List.getElem_toArray, List.getElem_cons_succ, List.getElem_cons_zero]
  refine wpAnyH_take (i := 8) (v := ?v9) rfl (by kernel_rfl) (by kernel_rfl) (by kernel_rfl) (fun _ _ _ h => h) (Or.inl ⟨by rfl, ?hy9⟩) (by assumption) ?_
  case hy9 => (intro w hSw; go_simp <;> (try with_reducible rfl))
  simp only [Act.put, List.setIfInBounds_toArray, List.set_cons_zero, List.set_cons_succ, List.getElem_toArray, List.getElem_cons_succ, List.getElem_cons_zero]
  refine wpAnyH_take (i := 9) (v := ?v10) rfl (by kernel_rfl) (by kernel_rfl) (by kernel_rfl) (fun _ _ _ h => h) (Or.inl ⟨by rfl, ?hy10⟩) (by assumption) ?_
  case hy10 => (intro w hSw; go_simp <;> (try with_reducible rfl))
  simp only [Act.put, List.setIfInBounds_toArray, List.set_cons_zero, List.set_cons_succ, List.getElem_toArray, List.getElem_cons_succ, List.getElem_cons_zero]
  refine wpAnyH_ready (rs := [10]) (by kernel_rfl) (by simp) ?_
  refine AllReadyH.cons rfl (fun K hK => ?_) AllReadyH.nil
  go_simp
  refine HSl.out.mono ?_
  rintro e1 w1 ⟨rfl, b1⟩
  have HV := hid (svalue_calls w1 (HH.out.on b1) i)
  have S1 := hid (slot_on hS.out b1)
  have B1 := hid (below_on HA.out b1)
  obtain ⟨d0, d1, _, dq⟩ := (HH.out.on b1).cells
  unfold vlV at HV
  clear b1 HSl HH HA hS
  go_simp
  refine hK.out _ _ ?_ (fun _ => ?_)
  · (refine ⟨?_, ?_⟩ <;> (first | assumption | go_simp))
  clear hK K
  refine wpAnyH_ready (rs := [11]) (by kernel_rfl) (by simp) ?_
  refine AllReadyH.cons rfl (fun K hK => ?_) AllReadyH.nil
  go_simp
  refine HV.out.mono ?_
  rintro e2 w2 ⟨rfl, b2⟩
  have S2 := hid (slot_on S1.out b2)
  have B2 := hid (below_on B1.out b2)
  have d0 := cell_on d0 dq b2
  have d1 := cell_on d1 dq b2
  have dq2 := Nat.lt_of_lt_of_le dq b2.size
  clear b2 HV S1 B1
  obtain ⟨g0, g1, g2, g3, g4, g5, g6⟩ := S2.out
  go_simp
  refine hK.out _ _ ?_ (fun _ => ?_)
  · (refine ⟨?_, ?_⟩ <;> (first | assumption | go_simp))
  clear hK K
  refine wpAnyH_take (i := 12) (v := ?v13) rfl (by kernel_rfl) (by kernel_rfl) (by kernel_rfl) (fun _ _ _ h => h) (Or.inl ⟨by rfl, ?hy13⟩) (by assumption) ?_
  case hy13 => (intro w hSw; go_simp <;> (try with_reducible rfl))
  simp only [Act.put, List.setIfInBounds_toArray, List.set_cons_zero, List.set_cons_succ, List.getElem_toArray, List.getElem_cons_succ, List.getElem_cons_zero]
  refine wpAnyH_take (i := 13) (v := ?v14) rfl (by kernel_rfl) (by kernel_rfl) (by kernel_rfl) (fun _ _ _ h => h) (Or.inl ⟨by rfl, ?hy14⟩) (by assumption) ?_
  case hy14 => (intro w hSw; go_simp <;> (try with_reducible rfl))
  simp only [Act.put, List.setIfInBounds_toArray, List.set_cons_zero, List.set_cons_succ, List.getElem_toArray, List.getElem_cons_succ, List.getElem_cons_zero]
  refine wpAnyH_ready (rs := [14]) (by kernel_rfl) (by simp) ?_
  refine AllReadyH.cons rfl (fun K hK => ?_) AllReadyH.nil
  go_simp
  refine hK.out _ _ ?_ (fun _ => ?_)
  · (refine ⟨?_, ?_⟩ <;> (first | assumption | go_simp))
  clear hK K
  refine wpAnyH_take (i := 15) (v := ?v16) rfl (by kernel_rfl) (by kernel_rfl) (by kernel_rfl) (fun _ _ _ h => h) (Or.inl ⟨by rfl, ?hy16⟩) (by assumption) ?_
  case hy16 => (intro w hSw; go_simp <;> (try with_reducible rfl))
  simp only [Act.put, List.setIfInBounds_toArray, List.set_cons_zero, List.set_cons_succ, List.getElem_toArray, List.getElem_cons_succ, List.getElem_cons_zero]
  refine wpAnyH_done (by kernel_rfl) ?_ _
  go_wp2_with fail
  exact bodyPost_ret (ret_ve rfl rfl (put3_cells S2.out _ _ _)) rfl ⟨rfl, put3 B2.out (by simp) _ _ _⟩

def strO (o : Option ByteArray) : ByteArray := o.getD ⟨#[]⟩
theorem keyL_some {l : List Ent} {i : Int} {s : ByteArray} (h : keyL l i = some s) : ∃ (k : Nat) (v : Vl), i = (k : Int) ∧ l[k]? = some (s, v) := by
  unfold keyL at h
  split at h
  · cases hg : l[i.toNat]? with
    | none => rw [hg] at h; cases h
    | some e =>
      rw [hg] at h
      obtain ⟨t, u⟩ := e
      have : t = s := by simpa using h
      subst this
      exact ⟨i.toNat, u, by omega, hg⟩
  · cases h
theorem keyL_none {l : List Ent} {i : Int} (h : keyL l i = none) : i < 0 ∨ (l.length : Int) ≤ i := by
  unfold keyL at h
  split at h
  · cases hg : l[i.toNat]? with
    | none => have := List.getElem?_eq_none_iff.1 hg; omega
    | some e => rw [hg] at h; cases h
  · omega
theorem keyL_at {l : List Ent} {k : Nat} {s : ByteArray} {v : Vl} (h : l[k]? = some (s, v)) : keyL l (k : Int) = some s := by
  unfold keyL
  rw [if_pos (by omega)]
  simp [h]
/-- the names of an object of a shape -/
structure Named (H : He) (sh : Int) (l : List Ent) : Prop where
  nm : l.map (·.1) = (namesF H.L sh).map (textN H.N)
  nums : ∀ x ∈ namesF H.L sh, 1 ≤ x ∧ x ≤ H.N.length
  len : H.N.length ≤ 1000000
theorem Named.at' {H : He} {sh : Int} {l : List Ent} {k : Nat} {e : Ent} (h : Named H sh l) (hk : l[k]? = some e) : ∃ j : Nat, (namesF H.L sh)[k]? = some ((j : Int) + 1) ∧ H.N[j]? = some e.1 := by
  have h1 : (l.map (·.1))[k]? = some e.1 := by rw [List.getElem?_map, hk]; rfl
  rw [h.nm, List.getElem?_map] at h1
  cases hx : (namesF H.L sh)[k]? with
  | none => rw [hx] at h1; cases h1
  | some x =>
    rw [hx] at h1
    have hb := h.nums x (List.mem_of_getElem? hx)
    obtain ⟨j, rfl⟩ : ∃ j : Nat, x = (j : Int) + 1 := ⟨(x - 1).toNat, by omega⟩
    refine ⟨j, rfl, ?_⟩
    have hj : j < H.N.length := by omega
    have h2 := List.getElem?_eq_getElem hj
    have h3 : textN H.N ((j : Int) + 1) = e.1 := by simpa using h1
    rw [show ((j : Int) + 1) = ((j + 1 : Nat) : Int) by omega, textN_at h2] at h3
    rw [h2, h3]

set_option maxHeartbeats 1000000 in
theorem skey_calls {H : He} {c n f q : Nat} {col : Nat → Nat} {sh : Int} {l : List Ent} {v : Value} (w : World) (C : Cls H c n f col w) (h : SlAt c sh l q v w) (hN : Named H sh l) (i : Int) :
    Calls Tryz.prog 116 #[.pointer (some ⟨q, 0, none⟩), .int .i64 i] w fun e w' => e = .returned (.tuple #[.string (strO (keyL l i)), .bool (keyL l i).isSome]) ∧ Below w.heap.size w w' := by
  obtain ⟨c0, c1, c2, hq⟩ := h.cells
  obtain ⟨d0, d1, hc⟩ := C.cells
  obtain ⟨ao, cap, rfl⟩ := row_shape h.row
  cases hs : keyL l i with
  | none =>
    have hn := keyL_none hs
    clear h hs C hN
    by_cases h0 : i < 0
    · go_enter Tryz.func116, Tryz.ntmps116
      go_wp2_with fail
      go_ret2
      exact ⟨rfl, Below.refl _ _⟩
    · have h1 : (l.length : Int) ≤ i := by omega
      clear hn
      go_enter Tryz.func116, Tryz.ntmps116
      go_wp2_with fail
      go_ret2
      exact ⟨rfl, Below.refl _ _⟩
  | some s =>
    obtain ⟨k, u, rfl, hk⟩ := keyL_some hs
    have hl : k < l.length := lt_of_get hk
    obtain ⟨j, hj, hjs⟩ := hN.at' hk
    have hkn := lt_of_get hj
    have HNl := hid hN.len
    have HJ := hid hj
    have HJS := hid hjs
    have D := (Below.refl w.heap.size w).drew
    have HN := hid (fnames_calls w.drew (C.fo.on D) sh)
    have HC := hid (C.on D)
    have HD := hid D
    clear h hs C hN hk D hj hjs
    go_enter Tryz.func116, Tryz.ntmps116
    go_wp2_with fail
    refine wp_region_held_drew (S := fun a => a.cell? ⟨q, 0, none⟩ = some (.pointer (some ⟨c, 0, none⟩)) ∧ a.cell? ⟨q, 1, none⟩ = some (.int .i64 sh) ∧ a.cell? ⟨c, 0, none⟩ = some (.pointer (some ⟨n, 0, none⟩)) ∧ a.cell? ⟨c, 1, none⟩ = some (.pointer (some ⟨f, 0, none⟩))) (by kernel_rfl) ?_ (fun hHeld => ?_)
    · (refine ⟨?_, ?_, ?_, ?_⟩ <;> go_simp)
    refine wpAnyH_take (i := 0) (v := ?v17) rfl (by kernel_rfl) (by kernel_rfl) (by kernel_rfl) (fun _ _ _ h => h) (Or.inl ⟨by rfl, ?hy17⟩) (by assumption) ?_
    case hy17 => (intro w hSw; go_simp <;> (try with_reducible rfl))
    simp only [Act.put, List.setIfInBounds_toArray, List.set_cons_zero, List.set_cons_succ, List.getElem_toArray, List.getElem_cons_succ, List.getElem_cons_zero]
    refine wpAnyH_take (i := 1) (v := ?v18) rfl (by kernel_rfl) (by kernel_rfl) (by kernel_rfl) (fun _ _ _ h => h) (Or.inl ⟨by rfl, ?hy18⟩) (by assumption) ?_
    case hy18 => (intro w hSw; go_simp <;> (try with_reducible rfl))
    simp only [Act.put, List.setIfInBounds_toArray, List.set_cons_zero, List.set_cons_succ, List.getElem_toArray, List.getElem_cons_succ, List.getElem_cons_zero]
    refine wpAnyH_take (i := 2) (v := ?v19) rfl (by kernel_rfl) (by kernel_rfl) (by kernel_rfl) (fun _ _ _ h => h) (Or.inl ⟨by rfl, ?hy19⟩) (by assumption) ?_
    case hy19 => (intro w hSw; go_simp <;> (try with_reducible rfl))
    simp only [Act.put, List.setIfInBounds_toArray, List.set_cons_zero, List.set_cons_succ, List.getElem_toArray, List.getElem_cons_succ, List.getElem_cons_zero]
    refine wpAnyH_take (i := 3) (v := ?v20) rfl (by kernel_rfl) (by kernel_rfl) (by kernel_rfl) (fun _ _ _ h => h) (Or.inl ⟨by rfl, ?hy20⟩) (by assumption) ?_
    case hy20 => (intro w hSw; go_simp <;> (try with_reducible rfl))
    simp only [Act.put, List.setIfInBounds_toArray, List.set_cons_zero, List.set_cons_succ, List.getElem_toArray, List.getElem_cons_succ, List.getElem_cons_zero]
    refine wpAnyH_take (i := 4) (v := ?v21) rfl (by kernel_rfl) (by kernel_rfl) (by kernel_rfl) (fun _ _ _ h => h) (Or.inl ⟨by rfl, ?hy21⟩) (by assumption) ?_
    case hy21 => (intro w hSw; go_simp <;> (try with_reducible rfl))
    simp only [Act.put, List.setIfInBounds_toArray, List.set_cons_zero, List.set_cons_succ, List.getElem_toArray, List.getElem_cons_succ, List.getElem_cons_zero]
    refine wpAnyH_take (i := 5) (v := ?v22) rfl (by kernel_rfl) (by kernel_rfl) (by kernel_rfl) (fun _ _ _ h => h) (Or.inl ⟨by rfl, ?hy22⟩) (by assumption) ?_
    case hy22 => (intro w hSw; go_simp <;> (try with_reducible rfl))
    simp only [Act.put, List.setIfInBounds_toArray, List.set_cons_zero, List.set_cons_succ, List.getElem_toArray, List.getElem_cons_succ, List.getElem_cons_zero]
    refine wpAnyH_take (i := 6) (v := ?v23) rfl (by kernel_rfl) (by kernel_rfl) (by kernel_rfl) (fun _ _ _ h => h) (Or.inl ⟨by rfl, ?hy23⟩) (by assumption) ?_
    case hy23 => (intro w hSw; go_simp <;> (try with_reducible rfl))
    simp only [Act.put, List.setIfInBounds_toArray, List.set_cons_zero, List.set_cons_succ, List.getElem_toArray, List.getElem_cons_succ, List.getElem_cons_zero]
    refine wpAnyH_take (i := 7) (v := ?v24) rfl (by kernel_rfl) (by kernel_rfl) (by kernel_rfl) (fun _ _ _ h => h) (Or.inl ⟨by rfl, ?hy24⟩) (by assumption) ?_
    case hy24 => (intro w hSw; go_simp <;> (try with_reducible rfl))
    simp only [Act.put, List.setIfInBounds_toArray, List.set_cons_zero, List.set_cons_succ, List.getElem_toArray, List.getElem_cons_succ, List.getElem_cons_zero]
    refine wpAnyH_take (i := 8) (v := ?v25) rfl (by kernel_rfl) (by kernel_rfl) (by kernel_rfl) (fun _ _ _ h => h) (Or.inl ⟨by rfl, ?hy25⟩) (by assumption) ?_
    case hy25 => (intro w hSw; go_simp <;> (try with_reducible rfl))
    simp only [Act.put, List.setIfInBounds_toArray, List.set_cons_zero, List.set_cons_succ, List.getElem_toArray, List.getElem_cons_succ, List.getElem_cons_zero]
    refine wpAnyH_take (i := 9) (v := ?v26) rfl (by kernel_rfl) (by kernel_rfl) (by kernel_rfl) (fun _ _ _ h => h) (Or.inl ⟨by rfl, ?hy26⟩) (by assumption) ?_
    case hy26 => (intro w hSw; go_simp <;> (try with_reducible rfl))
    simp only [Act.put, List.setIfInBounds_toArray, List.set_cons_zero, List.set_cons_succ, List.getElem_toArray, List.getElem_cons_succ, List.getElem_cons_zero]
    refine wpAnyH_take (i := 10) (v := ?v27) rfl (by kernel_rfl) (by kernel_rfl) (by kernel_rfl) (fun _ _ _ h => h) (Or.inl ⟨by rfl, ?hy27⟩) (by assumption) ?_
    case hy27 => (intro w hSw; go_simp <;> (try with_reducible rfl))
    simp only [Act.put, List.setIfInBounds_toArray, List.set_cons_zero, List.set_cons_succ, List.getElem_toArray, List.getElem_cons_succ, List.getElem_cons_zero]
    refine wpAnyH_take (i := 11) (v := ?v28) rfl (by kernel_rfl) (by kernel_rfl) (by kernel_rfl) (fun _ _ _ h => h) (Or.inl ⟨by rfl, ?hy28⟩) (by assumption) ?_
    case hy28 => (intro w hSw; go_simp <;> (try with_reducible rfl))
    simp only [Act.put, List.setIfInBounds_toArray, List.set_cons_zero, List.set_cons_succ, List.getElem_toArray, List.getElem_cons_succ, List.getElem_cons_zero]
    refine wpAnyH_take (i := 12) (v := ?v29) rfl (by kernel_rfl) (by kernel_rfl) (by kernel_rfl) (fun _ _ _ h => h) (Or.inl ⟨by rfl, ?hy29⟩) (by assumption) ?_
    case hy29 => (intro w hSw; go_simp <;> (try with_reducible rfl))
    simp only [Act.put, List.setIfInBounds_toArray, List.set_cons_zero, List.set_cons_succ, List.getElem_toArray, List.getElem_cons_succ, List.getElem_cons_zero]
    refine wpAnyH_take (i := 13) (v := ?v30) rfl (by kernel_rfl) (by kernel_rfl) (by kernel_rfl) (fun _ _ _ h => h) (Or.inl ⟨by rfl, ?hy30⟩) (by assumption) ?_
    case hy30 => (intro w hSw; go_simp <;> (try with_reducible rfl))
    simp only [Act.put, List.setIfInBounds_toArray, List.set_cons_zero, List.set_cons_succ, List.getElem_toArray, List.getElem_cons_succ, List.getElem_cons_zero]
    refine wpAnyH_take (i := 14) (v := ?v31) rfl (by kernel_rfl) (by kernel_rfl) (by kernel_rfl) (fun _ _ _ h => h) (Or.inl ⟨by rfl, ?hy31⟩) (by assumption) ?_
    case hy31 => (intro w hSw; go_simp <;> (try with_reducible rfl))
    simp only [Act.put, List.setIfInBounds_toArray, List.set_cons_zero, List.set_cons_succ, List.getElem_toArray, List.getElem_cons_succ, List.getElem_cons_zero]
    refine wpAnyH_take (i := 15) (v := ?v32) rfl (by kernel_rfl) (by kernel_rfl) (by kernel_rfl) (fun _ _ _ h => h) (Or.inl ⟨by rfl, ?hy32⟩) (by assumption) ?_
    case hy32 => (intro w hSw; go_simp <;> (try with_reducible rfl))
    simp only [Act.put, List.setIfInBounds_toArray, List.set_cons_zero, List.set_cons_succ, List.getElem_toArray, List.getElem_cons_succ, List.getElem_cons_zero]
    refine wpAnyH_take (i := 16) (v := ?v33) rfl (by kernel_rfl) (by kernel_rfl) (by kernel_rfl) (fun _ _ _ h => h) (Or.inl ⟨by rfl, ?hy33⟩) (by assumption) ?_
    case hy33 => (intro w hSw; go_simp <;> (try with_reducible rfl))
    simp only [Act.put, List.setIfInBounds_toArray, List.set_cons_zero, List.set_cons_succ, List.getElem_toArray, List.getElem_cons_succ, List.getElem_cons_zero]
    refine wpAnyH_take (i := 17) (v := ?v34) rfl (by kernel_rfl) (by kernel_rfl) (by kernel_rfl) (fun _ _ _ h => h) (Or.inl ⟨by rfl, ?hy34⟩) (by assumption) ?_
    case hy34 => (intro w hSw; go_simp <;> (try with_reducible rfl))
    simp only [Act.put, List.setIfInBounds_toArray, List.set_cons_zero, List.set_cons_succ, List.getElem_toArray, List.getElem_cons_succ, List.getElem_cons_zero]
    refine wpAnyH_take (i := 19) (v := ?v35) rfl (by kernel_rfl) (by kernel_rfl) (by kernel_rfl) (fun _ _ _ h => h) (Or.inl ⟨by rfl, ?hy35⟩) (by assumption) ?_
    case hy35 => (intro w hSw; go_simp <;> (try with_reducible rfl))
    simp only [Act.put, List.setIfInBounds_toArray, List.set_cons_zero, List.set_cons_succ, List.getElem_toArray, List.getElem_cons_succ, List.getElem_cons_zero]
    refine wpAnyH_ready (rs := [18]) (by kernel_rfl) (by simp) ?_
    refine AllReadyH.cons rfl (fun K hK => ?_) AllReadyH.nil
    go_simp
    refine HN.out.mono ?_
    rintro e1 w1 ⟨v1, rfl, r1, b1⟩
    obtain ⟨g1, cp1, rfl, _, hg1⟩ := r1.form (by omega)
    have x1 := row_cell (row_base r1 (Nat.zero_le _)) (j := k) (u := .int .i64 ((j : Int) + 1)) (by rw [List.getElem?_map, HJ.out]; rfl)
    have c0 := cell_on (c := w1) (a := w.drew) c0 hq b1
    have c1 := cell_on (c := w1) (a := w.drew) c1 hq b1
    have d0 := cell_on (c := w1) (a := w.drew) d0 hc b1
    have d1 := cell_on (c := w1) (a := w.drew) d1 hc b1
    have HT := hid (ttext_some w1 ((HC.out.on b1).nm) HJS.out HNl.out)
    have B1 := hid (below_on HD.out b1)
    clear r1 b1 HN HC HD HJ HJS HNl
    go_simp
    refine hK.out _ _ ?_ (fun _ => ?_)
    · (refine ⟨?_, ?_, ?_, ?_⟩ <;> (first | assumption | go_simp))
    clear hK K
    refine wpAnyH_take (i := 20) (v := ?v37) rfl (by kernel_rfl) (by kernel_rfl) (by kernel_rfl) (fun _ _ _ h => h) (Or.inl ⟨by rfl, ?hy37⟩) (by assumption) ?_
    case hy37 => (intro w hSw; go_simp <;> (try with_reducible rfl))
    simp only [Act.put, List.setIfInBounds_toArray, List.set_cons_zero, List.set_cons_succ, List.getElem_toArray, List.getElem_cons_succ, List.getElem_cons_zero]
    refine wpAnyH_ready (rs := [21]) (by kernel_rfl) (by simp) ?_
    refine AllReadyH.cons rfl (fun K hK => ?_) AllReadyH.nil
    go_simp
    refine hK.out _ _ ?_ (fun _ => ?_)
    · (refine ⟨?_, ?_, ?_, ?_⟩ <;> (first | assumption | go_simp))
    clear hK K
    refine wpAnyH_ready (rs := [22]) (by kernel_rfl) (by simp) ?_
    refine AllReadyH.cons rfl (fun K hK => ?_) AllReadyH.nil
    go_simp
    refine HT.out.mono ?_
    rintro e2 w2 ⟨rfl, rfl⟩
    go_simp
    refine hK.out _ _ ?_ (fun _ => ?_)
    · (refine ⟨?_, ?_, ?_, ?_⟩ <;> (first | assumption | go_simp))
    clear hK K
    refine wpAnyH_take (i := 23) (v := ?v40) rfl (by kernel_rfl) (by kernel_rfl) (by kernel_rfl) (fun _ _ _ h => h) (Or.inl ⟨by rfl, ?hy40⟩) (by assumption) ?_
    case hy40 => (intro w hSw; go_simp <;> (try with_reducible rfl))
    simp only [Act.put, List.setIfInBounds_toArray, List.set_cons_zero, List.set_cons_succ, List.getElem_toArray, List.getElem_cons_succ, List.getElem_cons_zero]
    refine wpAnyH_take (i := 24) (v := ?v41) rfl (by kernel_rfl) (by kernel_rfl) (by kernel_rfl) (fun _ _ _ h => h) (Or.inl ⟨by rfl, ?hy41⟩) (by assumption) ?_
    case hy41 => (intro w hSw; go_simp <;> (try with_reducible rfl))
    simp only [Act.put, List.setIfInBounds_toArray, List.set_cons_zero, List.set_cons_succ, List.getElem_toArray, List.getElem_cons_succ, List.getElem_cons_zero]
    refine wpAnyH_take (i := 25) (v := ?v42) rfl (by kernel_rfl) (by kernel_rfl) (by kernel_rfl) (fun _ _ _ h => h) (Or.inl ⟨by rfl, ?hy42⟩) (by assumption) ?_
    case hy42 => (intro w hSw; go_simp <;> (try with_reducible rfl))
    simp only [Act.put, List.setIfInBounds_toArray, List.set_cons_zero, List.set_cons_succ, List.getElem_toArray, List.getElem_cons_succ, List.getElem_cons_zero]
    refine wpAnyH_take (i := 26) (v := ?v43) rfl (by kernel_rfl) (by kernel_rfl) (by kernel_rfl) (fun _ _ _ h => h) (Or.inl ⟨by rfl, ?hy43⟩) (by assumption) ?_
    case hy43 => (intro w hSw; go_simp <;> (try with_reducible rfl))
    simp only [Act.put, List.setIfInBounds_toArray, List.set_cons_zero, List.set_cons_succ, List.getElem_toArray, List.getElem_cons_succ, List.getElem_cons_zero]
    refine wpAnyH_done (by kernel_rfl) ?_ _
    go_wp2_with fail
    go_ret2
    exact ⟨rfl, B1.out⟩

/-- a value put into a slot -/
def putL (l : List Ent) (i : Int) (x : Vl) : List Ent := if 0 ≤ i then setAt l i.toNat x else l
theorem putL_at {l : List Ent} {k : Nat} {s : ByteArray} {u : Vl} (x : Vl) (h : l[k]? = some (s, u)) : putL l (k : Int) x = l.set k (s, x) := by
  unfold putL setAt
  rw [if_pos (by omega), Int.toNat_natCast, h]
theorem putL_none {l : List Ent} {i : Int} (x : Vl) (h : slotL l i = none) : putL l i x = l := by
  unfold putL
  split
  · unfold setAt
    rcases slotL_none h with h1 | h1
    · omega
    · rw [List.getElem?_eq_none_iff.2 (by omega)]
  · rfl
theorem SlAt.put {c q i g cap : Nat} {sh : Int} {l : List Ent} {s : ByteArray} {u x : Vl} {w : World} (h : SlAt c sh l q (.slice (some ⟨g, 0, none⟩) l.length cap) w) (hu : l[i]? = some (s, u)) :
    SlAt c sh (l.set i (s, x)) q (.slice (some ⟨g, 0, none⟩) l.length cap) (((w.setCell ⟨g, i * 3, none⟩ (.int .i64 x.1)).setCell ⟨g, i * 3 + 1, none⟩ (.int .i64 x.2.1)).setCell ⟨g, i * 3 + 2, none⟩ (.string x.2.2)) ∧
      Keep (fun b => b = g) w (((w.setCell ⟨g, i * 3, none⟩ (.int .i64 x.1)).setCell ⟨g, i * 3 + 1, none⟩ (.int .i64 x.2.1)).setCell ⟨g, i * 3 + 2, none⟩ (.string x.2.2)) := by
  have hgq := h.ne (g := g) rfl
  have hil : i < l.length := lt_of_get hu
  have ks : ∀ (W : World) (j : Nat) (u : Value), Keep (fun b => b = g) W (W.setCell ⟨g, j, none⟩ u) := fun W j u => Keep.set (S := fun b => b = g) rfl W j u
  have K : Keep (fun b => b = g) w (((w.setCell ⟨g, i * 3, none⟩ (.int .i64 x.1)).setCell ⟨g, i * 3 + 1, none⟩ (.int .i64 x.2.1)).setCell ⟨g, i * 3 + 2, none⟩ (.string x.2.2)) := ((ks _ _ _).trans (ks _ _ _) (fun _ _ h => h)).trans (ks _ _ _) (fun _ _ h => h)
  refine ⟨⟨blk_keep h.blk K (fun e => hgq e.symm), ?_⟩, K⟩
  have rr := row_set (row_set (row_set h.row (i * 3) (.int .i64 x.1)) (i * 3 + 1) (.int .i64 x.2.1)) (i * 3 + 2) (.string x.2.2)
  rw [valsC_set (s := s) x hil] at rr
  rw [List.length_set]
  exact rr
set_option maxHeartbeats 1000000 in
theorem sput_calls {c q : Nat} {sh : Int} {l : List Ent} {v : Value} (w : World) (h : SlAt c sh l q v w) (i : Int) (x : Vl) :
    Calls Tryz.prog 63 #[.pointer (some ⟨q, 0, none⟩), .int .i64 i, vlV x] w fun e w' => e = .returned (.bool (slotL l i).isSome) ∧ SlAt c sh (putL l i x) q v w' ∧ Keep (FtL q v) w w' := by
  obtain ⟨c0, c1, c2, hq⟩ := h.cells
  have A := (Below.refl w.heap.size w).alloc (Nat.le_refl _) (Obj.cells #[.int .i64 x.1, .int .i64 x.2.1, .string x.2.2] 26)
  cases hs : slotL l i with
  | none =>
    rw [putL_none x hs]
    obtain ⟨ao, cap, rfl⟩ := row_shape h.row
    have hn := slotL_none hs
    have HH := hid (h.on A)
    have HA := hid A
    clear h hs A
    unfold vlV
    by_cases h0 : i < 0
    · go_enter Tryz.func63, Tryz.ntmps63
      go_wp2_with fail
      go_ret
      exact ⟨rfl, HH.out, Keep.of HA.out⟩
    · have h1 : (l.length : Int) ≤ i := by omega
      clear hn
      go_enter Tryz.func63, Tryz.ntmps63
      go_wp2_with fail
      go_ret
      exact ⟨rfl, HH.out, Keep.of HA.out⟩
  | some u =>
    obtain ⟨k, s, rfl, hk⟩ := slotL_some hs
    obtain ⟨g, cap, rfl, hgs, v0, v1, v2, fz⟩ := h.value hk
    have hl : k < l.length := lt_of_get hk
    rw [putL_at x hk]
    have HP := hid (h.put (x := x) hk)
    have hgq := h.ne (g := g) rfl
    have f0 := fz (k * 3)
    have f1 := fz (k * 3 + 1)
    have f2 := fz (k * 3 + 2)
    clear h hs hk fz A
    unfold vlV
    go_enter Tryz.func63, Tryz.ntmps63
    go_wp2_with fail
    refine wp_region_held_drew (S := fun a => a.cell? ⟨q, 2, none⟩ = some (.slice (some ⟨g, 0, none⟩) l.length cap) ∧ a.cell? ⟨w.heap.size, 0, none⟩ = some (.int .i64 x.1) ∧ a.cell? ⟨w.heap.size, 1, none⟩ = some (.int .i64 x.2.1) ∧ a.cell? ⟨w.heap.size, 2, none⟩ = some (.string x.2.2)) (by kernel_rfl) ?_ (fun hHeld => ?_)
    · (refine ⟨?_, ?_, ?_, ?_⟩ <;> go_simp)
    refine wpAnyH_take (i := 0) (v := ?v44) rfl (by kernel_rfl) (by kernel_rfl) (by kernel_rfl) (fun _ _ _ h => h) (Or.inl ⟨by rfl, ?hy44⟩) (by assumption) ?_
    case hy44 => (intro w hSw; go_simp <;> (try with_reducible rfl))
    simp only [Act.put, List.setIfInBounds_toArray, List.set_cons_zero, List.set_cons_succ, List.getElem_toArray, List.getElem_cons_succ, List.getElem_cons_zero]
    refine wpAnyH_take (i := 1) (v := ?v45) rfl (by kernel_rfl) (by kernel_rfl) (by kernel_rfl) (fun _ _ _ h => h) (Or.inl ⟨by rfl, ?hy45⟩) (by assumption) ?_
    case hy45 => (intro w hSw; go_simp <;> (try with_reducible rfl))
    simp only [Act.put, List.setIfInBounds_toArray, List.set_cons_zero, List.set_cons_succ, List.getElem_toArray, List.getElem_cons_succ, List.getElem_cons_zero]
    refine wpAnyH_take (i := 2) (v := ?v46) rfl (by kernel_rfl) (by kernel_rfl) (by kernel_rfl) (fun _ _ _ h => h) (Or.inl ⟨by rfl, ?hy46⟩) (by assumption) ?_
    case hy46 => (intro w hSw; go_simp <;> (try with_reducible rfl))
    simp only [Act.put, List.setIfInBounds_toArray, List.set_cons_zero, List.set_cons_succ, List.getElem_toArray, List.getElem_cons_succ, List.getElem_cons_zero]
    refine wpAnyH_take (i := 3) (v := ?v47) rfl (by kernel_rfl) (by kernel_rfl) (by kernel_rfl) (fun _ _ _ h => h) (Or.inl ⟨by rfl, ?hy47⟩) (by assumption) ?_
    case hy47 => (intro w hSw; go_simp <;> (try with_reducible rfl))
    simp only [Act.put, List.setIfInBounds_toArray, List.set_cons_zero, List.set_cons_succ, List.getElem_toArray, List.getElem_cons_succ, List.getElem_cons_zero]
    refine wpAnyH_take (i := 4) (v := ?v48) rfl (by kernel_rfl) (by kernel_rfl) (by kernel_rfl) (fun _ _ _ h => h) (Or.inl ⟨by rfl, ?hy48⟩) (by assumption) ?_
    case hy48 => (intro w hSw; go_simp <;> (try with_reducible rfl))
    simp only [Act.put, List.setIfInBounds_toArray, List.set_cons_zero, List.set_cons_succ, List.getElem_toArray, List.getElem_cons_succ, List.getElem_cons_zero]
    refine wpAnyH_take (i := 5) (v := ?v49) rfl (by kernel_rfl) (by kernel_rfl) (by kernel_rfl) (fun _ _ _ h => h) (Or.inl ⟨by rfl, ?hy49⟩) (by assumption) ?_
    case hy49 => (intro w hSw; go_simp <;> (try with_reducible rfl))
    simp only [Act.put, List.setIfInBounds_toArray, List.set_cons_zero, List.set_cons_succ, List.getElem_toArray, List.getElem_cons_succ, List.getElem_cons_zero]
    refine wpAnyH_take (i := 6) (v := ?v50) rfl (by kernel_rfl) (by kernel_rfl) (by kernel_rfl) (fun _ _ _ h => h) (Or.inl ⟨by rfl, ?hy50⟩) (by assumption) ?_
    case hy50 => (intro w hSw; go_simp <;> (try with_reducible rfl))
    simp only [Act.put, List.setIfInBounds_toArray, List.set_cons_zero, List.set_cons_succ, List.getElem_toArray, List.getElem_cons_succ, List.getElem_cons_zero]
    refine wpAnyH_ready (rs := [7]) (by kernel_rfl) (by simp) ?_
    refine AllReadyH.cons rfl (fun K hK => ?_) AllReadyH.nil
    go_simp
    refine hK.out _ _ ?_ (fun _ => ?_)
    · (refine ⟨?_, ?_, ?_, ?_⟩ <;> (first | assumption | go_simp))
    clear hK K
    refine wpAnyH_done (by kernel_rfl) ?_ _
    go_wp2_with fail
    go_ret
    exact ⟨rfl, HP.out.1.on (((Below.refl _ _).alloc (Nat.le_refl _) _).drew), (HP.out.2.mono (T := FtL q (.slice (some ⟨g, 0, none⟩) l.length cap)) (fun b _ e => .inr (by rw [e]; rfl))).trans (Keep.of (S := FtL q (.slice (some ⟨g, 0, none⟩) l.length cap)) (((Below.refl _ _).alloc (Nat.le_refl _) _).drew)) (fun _ _ h => h)⟩

end Go.Proofs.YtemidicgipebjaaGreat
