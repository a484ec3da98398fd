/- The heap in memory: shapes' names, objects of slots, dictionaries. -/
import Derived.Test.YtemidicgipebjaaGreatHpPlain
import Derived.Test.YtemidicgipebjaaGreatDcVals
import Derived.Test.YtemidicgipebjaaGreatJoint3
import Derived.Test.YtemidicgipebjaaGreatJoint4
namespace Go.Proofs.YtemidicgipebjaaGreat
set_option linter.unusedSimpArgs false
set_option maxRecDepth 100000
open Go.RowKit

theorem cell_on {g i : Nat} {v : Value} {a c : World} (h : a.cell? ⟨g, i, none⟩ = some v) (hg : g < a.heap.size) (k : Below a.heap.size a c) : c.cell? ⟨g, i, none⟩ = some v := (k.cell (p := ⟨g, i, none⟩) hg).trans h
theorem cell_keep {S : Nat → Prop} {g i : Nat} {v : Value} {a c : World} (h : a.cell? ⟨g, i, none⟩ = some v) (hg : g < a.heap.size) (k : Keep S a c) (hp : ¬ S g) : c.cell? ⟨g, i, none⟩ = some v := by
  have e := k.block g hg hp
  unfold World.cell? at h ⊢
  simp only [e]
  exact h

/-- names and shapes of a heap: names in blocks of colour 2, shapes in blocks of colour 3 -/
structure Cls (H : He) (c n f : Nat) (col : Nat → Nat) (w : World) : Prop where
  blk : Blk c 112 #[.pointer (some ⟨n, 0, none⟩), .pointer (some ⟨f, 0, none⟩)] w
  nm : NmS (fun b => col b = 2) n H.N w
  fo : FoS (fun b => col b = 3) f H.M H.L w
theorem Cls.on {H : He} {c n f : Nat} {col : Nat → Nat} {a b : World} (h : Cls H c n f col a) (k : Below a.heap.size a b) : Cls H c n f col b := ⟨blk_on h.blk k, h.nm.on k, h.fo.on k⟩
theorem Cls.keep {S : Nat → Prop} {H : He} {c n f : Nat} {col : Nat → Nat} {a b : World} (h : Cls H c n f col a) (k : Keep S a b) (hc : ¬ S c) (hS : ∀ x, x < a.heap.size → col x = 2 ∨ col x = 3 → ¬ S x) : Cls H c n f col b :=
  ⟨blk_keep h.blk k hc, h.nm.keep k (fun x hx e => hS x hx (.inl e)), h.fo.keep k (fun x hx e => hS x hx (.inr e))⟩
theorem Cls.mono {H : He} {c n f : Nat} {col col' : Nat → Nat} {w : World} (h : Cls H c n f col w) (he : ∀ b, b < w.heap.size → col' b = col b) : Cls H c n f col' w :=
  ⟨h.blk, h.nm.mono (fun b hb e => (he b hb).trans e), h.fo.mono (fun b hb e => (he b hb).trans e)⟩
theorem Cls.cells {H : He} {c n f : Nat} {col : Nat → Nat} {w : World} (h : Cls H c n f col w) : w.cell? ⟨c, 0, none⟩ = some (.pointer (some ⟨n, 0, none⟩)) ∧ w.cell? ⟨c, 1, none⟩ = some (.pointer (some ⟨f, 0, none⟩)) ∧ c < w.heap.size :=
  ⟨by rw [blk_cell h.blk]; rfl, by rw [blk_cell h.blk]; rfl, blk_lt h.blk⟩
theorem cslot_calls {H : He} {c n f : Nat} {col : Nat → Nat} (w : World) (h : Cls H c n f col w) (id : Int) (s : ByteArray) (hs : s.size ≤ 1000000) :
    Calls Tryz.prog 55 #[.pointer (some ⟨c, 0, none⟩), .int .i64 id, .string s] w fun e w' => e = .returned (.int .i64 (slotN H.N H.L id s)) ∧ Below w.heap.size w w' := by
  have HF := hid (tfind_calls w h.nm s (by unfold maxLen; omega))
  obtain ⟨c0, c1, hc⟩ := h.cells
  cases ha : atT H.N s with
  | none =>
    rw [show slotN H.N H.L id s = -1 by unfold slotN; rw [ha]]
    rw [ha, show findT H.N s = 0 by unfold findT; rw [ha]] at HF
    clear h
    go_enter Tryz.func55, Tryz.ntmps55
    go_wp2_with fail
    refine HF.out.mono ?_
    rintro e1 w1 ⟨rfl, rfl⟩
    go_wp2_with fail
    go_ret
    exact ⟨rfl, Below.refl _ _⟩
  | some i =>
    rw [show slotN H.N H.L id s = slotF H.L id ((i + 1 : Nat) : Int) by unfold slotN; rw [ha]]
    rw [ha, show findT H.N s = i + 1 by unfold findT; rw [ha]] at HF
    have HS := hid (fslot_calls w h.fo id ((i + 1 : Nat) : Int))
    clear h ha
    generalize ((i + 1 : Nat) : Int) = j at *
    go_enter Tryz.func55, Tryz.ntmps55
    go_wp2_with fail
    refine HF.out.mono ?_
    rintro e1 w1 ⟨rfl, rfl⟩
    go_wp2_with fail
    refine HS.out.mono ?_
    rintro e2 w2 ⟨rfl, b2⟩
    have B2 := hid b2
    clear b2
    go_wp2_with fail
    go_ret
    exact ⟨rfl, B2.out⟩

/-- an object of slots at q -/
structure SlAt (c : Nat) (sh : Int) (l : List Ent) (q : Nat) (v : Value) (w : World) : Prop where
  blk : Blk q 91 #[.pointer (some ⟨c, 0, none⟩), .int .i64 sh, v] w
  row : w.ownsRow 0 26 3 v l.length (valsC l)
def FtL (q : Nat) (v : Value) (b : Nat) : Prop := b = q ∨ v.ownBlock = some b
theorem SlAt.keep {c q : Nat} {sh : Int} {l : List Ent} {v : Value} {a b : World} (h : SlAt c sh l q v a) (hk : ∀ x, FtL q v x → b.heap[x]? = a.heap[x]?) : SlAt c sh l q v b :=
  ⟨(hk q (.inl rfl)).trans h.blk, row_keep h.row (fun g hg => hk g (.inr hg))⟩
theorem SlAt.lt {c q b : Nat} {sh : Int} {l : List Ent} {v : Value} {w : World} (h : SlAt c sh l q v w) (hb : FtL q v b) : b < w.heap.size := by
  rcases hb with rfl | hb
  · exact blk_lt h.blk
  · obtain ⟨cur, hc⟩ := row_lt h.row hb
    exact blk_lt hc
theorem SlAt.on {c q : Nat} {sh : Int} {l : List Ent} {v : Value} {a b : World} (h : SlAt c sh l q v a) (k : Below a.heap.size a b) : SlAt c sh l q v b := h.keep fun x hx => k.block x (h.lt hx)
theorem SlAt.ne {c q : Nat} {sh : Int} {l : List Ent} {v : Value} {w : World} (h : SlAt c sh l q v w) {g : Nat} (hg : v.ownBlock = some g) : g ≠ q := fun e => by
  obtain ⟨cur, hc⟩ := row_lt h.row hg
  exact absurd (blk_type hc (e ▸ h.blk)) (by decide)
theorem SlAt.cells {c q : Nat} {sh : Int} {l : List Ent} {v : Value} {w : World} (h : SlAt c sh l q v w) : w.cell? ⟨q, 0, none⟩ = some (.pointer (some ⟨c, 0, none⟩)) ∧ w.cell? ⟨q, 1, none⟩ = some (.int .i64 sh) ∧ w.cell? ⟨q, 2, none⟩ = some v ∧ q < w.heap.size :=
  ⟨by rw [blk_cell h.blk]; rfl, by rw [blk_cell h.blk]; rfl, by rw [blk_cell h.blk]; rfl, blk_lt h.blk⟩
theorem SlAt.value {c q i : Nat} {sh : Int} {l : List Ent} {v : Value} {e : Ent} {w : World} (h : SlAt c sh l q v w) (hi : l[i]? = some e) :
    ∃ g cap, v = .slice (some ⟨g, 0, none⟩) l.length cap ∧ g < w.heap.size ∧ w.cell? ⟨g, i * 3, none⟩ = some (.int .i64 e.2.1) ∧ w.cell? ⟨g, i * 3 + 1, none⟩ = some (.int .i64 e.2.2.1) ∧ w.cell? ⟨g, i * 3 + 2, none⟩ = some (.string e.2.2.2) ∧ ∀ j, w.frozen? ⟨g, j, none⟩ = false := by
  have hl : i < l.length := lt_of_get hi
  obtain ⟨g, cap, rfl, _, hg⟩ := h.row.form (by omega)
  exact ⟨g, cap, rfl, hg, row_cell h.row (valsC_at (j := 0) hi (by omega)), row_cell h.row (valsC_at (j := 1) hi (by omega)), row_cell h.row (valsC_at (j := 2) hi (by omega)), fun j => row_free h.row j⟩

def vlO (o : Option Vl) : Vl := o.getD vl0
theorem slotL_some {l : List Ent} {i : Int} {v : Vl} (h : slotL l i = some v) : ∃ (k : Nat) (s : ByteArray), i = (k : Int) ∧ l[k]? = some (s, v) := by
  unfold slotL at h
  split at h
  · cases hg : l[i.toNat]? with
    | none => rw [hg] at h; cases h
    | some e =>
      rw [hg] at h
      obtain ⟨s, u⟩ := e
      have : u = v := by simpa using h
      subst this
      exact ⟨i.toNat, s, by omega, hg⟩
  · cases h
theorem slotL_none {l : List Ent} {i : Int} (h : slotL l i = none) : i < 0 ∨ (l.length : Int) ≤ i := by
  unfold slotL at h
  split at h
  · cases hg : l[i.toNat]? with
    | none => have := List.getElem?_eq_none_iff.1 hg; omega
    | some e => rw [hg] at h; cases h
  · omega
theorem slotL_at {l : List Ent} {k : Nat} {s : ByteArray} {v : Vl} (h : l[k]? = some (s, v)) : slotL l (k : Int) = some v := by
  unfold slotL
  rw [if_pos (by omega)]
  simp [h]

set_option maxHeartbeats 1000000 in
theorem svalue_calls {c q : Nat} {sh : Int} {l : List Ent} {v : Value} (w : World) (h : SlAt c sh l q v w) (i : Int) :
    Calls Tryz.prog 54 #[.pointer (some ⟨q, 0, none⟩), .int .i64 i] w fun e w' => e = .returned (.tuple #[vlV (vlO (slotL l i)), .bool (slotL l i).isSome]) ∧ Below w.heap.size w w' := by
  obtain ⟨c0, c1, c2, hq⟩ := h.cells
  cases hs : slotL l i with
  | none =>
    obtain ⟨ao, cap, rfl⟩ := row_shape h.row
    have hn := slotL_none hs
    clear h hs
    by_cases h0 : i < 0
    · go_enter Tryz.func54, Tryz.ntmps54
      go_wp2_with fail
      exact bodyPost_ret (ret_ve rfl rfl ⟨by simp [vl0, vlO], by simp [vl0, vlO], by simp [vl0, vlO]⟩) rfl ⟨rfl, (Below.refl _ _).alloc (Nat.le_refl _) _⟩
    · have h1 : (l.length : Int) ≤ i := by omega
      clear hn
      go_enter Tryz.func54, Tryz.ntmps54
      go_wp2_with fail
      exact bodyPost_ret (ret_ve rfl rfl ⟨by simp [vl0, vlO], by simp [vl0, vlO], by simp [vl0, vlO]⟩) rfl ⟨rfl, (Below.refl _ _).alloc (Nat.le_refl _) _⟩
  | some u =>
    obtain ⟨k, s, rfl, hk⟩ := slotL_some hs
    obtain ⟨g, cap, rfl, hg, v0, v1, v2, _⟩ := h.value hk
    have hl : k < l.length := lt_of_get hk
    clear h hs hk
    go_enter Tryz.func54, Tryz.ntmps54
    go_wp2_with fail
    exact bodyPost_ret (ret_ve rfl rfl ⟨by simp [vlO], by simp [vlO], by simp [vlO]⟩) rfl ⟨rfl, (Below.refl _ _).alloc (Nat.le_refl _) _⟩
theorem scount_calls {c q : Nat} {sh : Int} {l : List Ent} {v : Value} (w : World) (h : SlAt c sh l q v w) :
    Calls Tryz.prog 65 #[.pointer (some ⟨q, 0, none⟩)] w fun e w' => e = .returned (.int .i64 (l.length : Int)) ∧ w' = w := by
  obtain ⟨c0, c1, c2, hq⟩ := h.cells
  obtain ⟨ao, cap, rfl⟩ := row_shape h.row
  clear h
  go_enter Tryz.func65, Tryz.ntmps65
  go_wp2_with fail
  go_ret
  exact ⟨rfl, rfl⟩
set_option maxHeartbeats 1000000 in
theorem sproto_calls {H : He} {c n f q : Nat} {col : Nat → Nat} {sh : Int} {l : List Ent} {v : Value} (w : World) (C : Cls H c n f col w) (h : SlAt c sh l q v w) :
    Calls Tryz.prog 115 #[.pointer (some ⟨q, 0, none⟩)] w fun e w' => e = .returned (.int .i64 (protoF H.L sh)) ∧ Below w.heap.size w w' := by
  obtain ⟨c0, c1, c2, hq⟩ := h.cells
  obtain ⟨d0, d1, hc⟩ := C.cells
  have HP := hid (fproto_calls w.drew (C.fo.on (Below.refl _ _).drew) sh)
  clear h C
  go_enter Tryz.func115, Tryz.ntmps115
  go_wp2_with fail
  refine wp_region_held_drew (S := fun a => a.cell? ⟨q, 0, none⟩ = some (.pointer (some ⟨c, 0, none⟩)) ∧ a.cell? ⟨q, 1, none⟩ = some (.int .i64 sh) ∧ a.cell? ⟨c, 1, none⟩ = some (.pointer (some ⟨f, 0, none⟩))) (by kernel_rfl) ?_ (fun hHeld => ?_)
  · (refine ⟨?_, ?_, ?_⟩ <;> go_simp)
  refine wpAnyH_take (i := 0) (v := ?v1) rfl (by kernel_rfl) (by kernel_rfl) (by kernel_rfl) (fun _ _ _ h => h) (Or.inl ⟨by rfl, ?hy1⟩) (by assumption) ?_
  case hy1 => (intro w hSw; go_simp <;> (try with_reducible rfl))
  simp only [Act.put, List.setIfInBounds_toArray, List.set_cons_zero, List.set_cons_succ, List.getElem_toArray, List.getElem_cons_succ, List.getElem_cons_zero]
  refine wpAnyH_take (i := 1) (v := ?v2) rfl (by kernel_rfl) (by kernel_rfl) (by kernel_rfl) (fun _ _ _ h => h) (Or.inl ⟨by rfl, ?hy2⟩) (by assumption) ?_
  case hy2 => (intro w hSw; go_simp <;> (try with_reducible rfl))
  simp only [Act.put, List.setIfInBounds_toArray, List.set_cons_zero, List.set_cons_succ, List.getElem_toArray, List.getElem_cons_succ, List.getElem_cons_zero]
  refine wpAnyH_take (i := 2) (v := ?v3) rfl (by kernel_rfl) (by kernel_rfl) (by kernel_rfl) (fun _ _ _ h => h) (Or.inl ⟨by rfl, ?hy3⟩) (by assumption) ?_
  case hy3 => (intro w hSw; go_simp <;> (try with_reducible rfl))
  simp only [Act.put, List.setIfInBounds_toArray, List.set_cons_zero, List.set_cons_succ, List.getElem_toArray, List.getElem_cons_succ, List.getElem_cons_zero]
  refine wpAnyH_take (i := 3) (v := ?v4) rfl (by kernel_rfl) (by kernel_rfl) (by kernel_rfl) (fun _ _ _ h => h) (Or.inl ⟨by rfl, ?hy4⟩) (by assumption) ?_
  case hy4 => (intro w hSw; go_simp <;> (try with_reducible rfl))
  simp only [Act.put, List.setIfInBounds_toArray, List.set_cons_zero, List.set_cons_succ, List.getElem_toArray, List.getElem_cons_succ, List.getElem_cons_zero]
  refine wpAnyH_take (i := 4) (v := ?v5) rfl (by kernel_rfl) (by kernel_rfl) (by kernel_rfl) (fun _ _ _ h => h) (Or.inl ⟨by rfl, ?hy5⟩) (by assumption) ?_
  case hy5 => (intro w hSw; go_simp <;> (try with_reducible rfl))
  simp only [Act.put, List.setIfInBounds_toArray, List.set_cons_zero, List.set_cons_succ, List.getElem_toArray, List.getElem_cons_succ, List.getElem_cons_zero]
  refine wpAnyH_take (i := 5) (v := ?v6) rfl (by kernel_rfl) (by kernel_rfl) (by kernel_rfl) (fun _ _ _ h => h) (Or.inl ⟨by rfl, ?hy6⟩) (by assumption) ?_
  case hy6 => (intro w hSw; go_simp <;> (try with_reducible rfl))
  simp only [Act.put, List.setIfInBounds_toArray, List.set_cons_zero, List.set_cons_succ, List.getElem_toArray, List.getElem_cons_succ, List.getElem_cons_zero]
  refine wpAnyH_take (i := 6) (v := ?v7) rfl (by kernel_rfl) (by kernel_rfl) (by kernel_rfl) (fun _ _ _ h => h) (Or.inl ⟨by rfl, ?hy7⟩) (by assumption) ?_
  case hy7 => (intro w hSw; go_simp <;> (try with_reducible rfl))
  simp only [Act.put, List.setIfInBounds_toArray, List.set_cons_zero, List.set_cons_succ, List.getElem_toArray, List.getElem_cons_succ, List.getElem_cons_zero]
  refine wpAnyH_take (i := 7) (v := ?v8) rfl (by kernel_rfl) (by kernel_rfl) (by kernel_rfl) (fun _ _ _ h => h) (Or.inl ⟨by rfl, ?hy8⟩) (by assumption) ?_
  case hy8 => (intro w hSw; go_simp <;> (try with_reducible rfl))
  simp only [Act.put, List.setIfInBounds_toArray, List.set_cons_zero, List.set_cons_succ, List.getElem_toArray, List.getElem_cons_succ, List.getElem_cons_zero]
  refine wpAnyH_take (i := 8) (v := ?v9) rfl (by kernel_rfl) (by kernel_rfl) (by kernel_rfl) (fun _ _ _ h => h) (Or.inl ⟨by rfl, ?hy9⟩) (by assumption) ?_
  case hy9 => (intro w hSw; go_simp <;> (try with_reducible rfl))
  simp only [Act.put, List.setIfInBounds_toArray, List.set_cons_zero, List.set_cons_succ, List.getElem_toArray, List.getElem_cons_succ, List.getElem_cons_zero]
  refine wpAnyH_take (i := 9) (v := ?v10) rfl (by kernel_rfl) (by kernel_rfl) (by kernel_rfl) (fun _ _ _ h => h) (Or.inl ⟨by rfl, ?hy10⟩) (by assumption) ?_
  case hy10 => (intro w hSw; go_simp <;> (try with_reducible rfl))
  simp only [Act.put, List.setIfInBounds_toArray, List.set_cons_zero, List.set_cons_succ, List.getElem_toArray, List.getElem_cons_succ, List.getElem_cons_zero]
  refine wpAnyH_take (i := 10) (v := ?v11) rfl (by kernel_rfl) (by kernel_rfl) (by kernel_rfl) (fun _ _ _ h => h) (Or.inl ⟨by rfl, ?hy11⟩) (by assumption) ?_
  case hy11 => (intro w hSw; go_simp <;> (try with_reducible rfl))
  simp only [Act.put, List.setIfInBounds_toArray, List.set_cons_zero, List.set_cons_succ, List.getElem_toArray, List.getElem_cons_succ, List.getElem_cons_zero]
  refine wpAnyH_ready (rs := [11]) (by kernel_rfl) (by simp) ?_
  refine AllReadyH.cons rfl (fun K hK => ?_) AllReadyH.nil
  go_simp
  refine HP.out.mono ?_
  rintro e1 w1 ⟨rfl, rfl⟩
  go_simp
  refine hK.out _ _ ?_ (fun _ => ?_)
  · (refine ⟨?_, ?_, ?_⟩ <;> (first | assumption | go_simp))
  clear hK K
  refine wpAnyH_take (i := 12) (v := ?v13) rfl (by kernel_rfl) (by kernel_rfl) (by kernel_rfl) (fun _ _ _ h => h) (Or.inl ⟨by rfl, ?hy13⟩) (by assumption) ?_
  case hy13 => (intro w hSw; go_simp <;> (try with_reducible rfl))
  simp only [Act.put, List.setIfInBounds_toArray, List.set_cons_zero, List.set_cons_succ, List.getElem_toArray, List.getElem_cons_succ, List.getElem_cons_zero]
  refine wpAnyH_take (i := 13) (v := ?v14) rfl (by kernel_rfl) (by kernel_rfl) (by kernel_rfl) (fun _ _ _ h => h) (Or.inl ⟨by rfl, ?hy14⟩) (by assumption) ?_
  case hy14 => (intro w hSw; go_simp <;> (try with_reducible rfl))
  simp only [Act.put, List.setIfInBounds_toArray, List.set_cons_zero, List.set_cons_succ, List.getElem_toArray, List.getElem_cons_succ, List.getElem_cons_zero]
  refine wpAnyH_take (i := 14) (v := ?v15) rfl (by kernel_rfl) (by kernel_rfl) (by kernel_rfl) (fun _ _ _ h => h) (Or.inl ⟨by rfl, ?hy15⟩) (by assumption) ?_
  case hy15 => (intro w hSw; go_simp <;> (try with_reducible rfl))
  simp only [Act.put, List.setIfInBounds_toArray, List.set_cons_zero, List.set_cons_succ, List.getElem_toArray, List.getElem_cons_succ, List.getElem_cons_zero]
  refine wpAnyH_take (i := 15) (v := ?v16) rfl (by kernel_rfl) (by kernel_rfl) (by kernel_rfl) (fun _ _ _ h => h) (Or.inl ⟨by rfl, ?hy16⟩) (by assumption) ?_
  case hy16 => (intro w hSw; go_simp <;> (try with_reducible rfl))
  simp only [Act.put, List.setIfInBounds_toArray, List.set_cons_zero, List.set_cons_succ, List.getElem_toArray, List.getElem_cons_succ, List.getElem_cons_zero]
  refine wpAnyH_take (i := 16) (v := ?v17) rfl (by kernel_rfl) (by kernel_rfl) (by kernel_rfl) (fun _ _ _ h => h) (Or.inl ⟨by rfl, ?hy17⟩) (by assumption) ?_
  case hy17 => (intro w hSw; go_simp <;> (try with_reducible rfl))
  simp only [Act.put, List.setIfInBounds_toArray, List.set_cons_zero, List.set_cons_succ, List.getElem_toArray, List.getElem_cons_succ, List.getElem_cons_zero]
  refine wpAnyH_done (by kernel_rfl) ?_ _
  go_wp2_with fail
  go_ret
  exact ⟨rfl, (Below.refl _ _).drew⟩

end Go.Proofs.YtemidicgipebjaaGreat
