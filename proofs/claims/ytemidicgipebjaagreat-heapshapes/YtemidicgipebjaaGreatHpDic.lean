/- Objects that are dictionaries. -/
import Derived.Test.YtemidicgipebjaaGreatHpMem
namespace Go.Proofs.YtemidicgipebjaaGreat
set_option linter.unusedSimpArgs false
set_option maxRecDepth 100000
open Go.RowKit

/-- a dictionary at q, in the blocks of S -/
def DiS (S : Nat → Prop) (pr : Int) (l : List Ent) (q n : Nat) (w : World) : Prop := ∃ d, Blk q 137 #[.int .i64 pr, .pointer (some ⟨d, 0, none⟩)] w ∧ DcS (fun b => S b ∧ b ≠ q) d n l w ∧ S q
theorem DiS.mono {S T : Nat → Prop} {pr : Int} {l : List Ent} {q n k : Nat} {w : World} (h : DiS S pr l q n w) (hS : ∀ b, b < w.heap.size → S b → T b) (hn : n ≤ k) : DiS T pr l q k w := by
  obtain ⟨d, h1, h2, h3⟩ := h
  exact ⟨d, h1, h2.mono (fun b hb h => ⟨hS b hb h.1, h.2⟩) hn, hS q (blk_lt h1) h3⟩
theorem DiS.keep {S T : Nat → Prop} {pr : Int} {l : List Ent} {q n : Nat} {a c : World} (h : DiS S pr l q n a) (k : Keep T a c) (hT : ∀ b, b < a.heap.size → S b → ¬ T b) : DiS S pr l q n c := by
  obtain ⟨d, h1, h2, h3⟩ := h
  exact ⟨d, blk_keep h1 k (hT q (blk_lt h1) h3), h2.keep k (fun b hb h => hT b hb h.1), h3⟩
theorem DiS.on {S : Nat → Prop} {pr : Int} {l : List Ent} {q n : Nat} {a c : World} (h : DiS S pr l q n a) (k : Below a.heap.size a c) : DiS S pr l q n c := h.keep (T := fun _ => False) (Keep.of k) (fun _ _ _ h => h)
theorem DiS.once {S : Nat → Prop} {pr : Int} {l : List Ent} {q n : Nat} {w : World} (h : DiS S pr l q n w) : OkL l ∧ l.length ≤ n := by
  obtain ⟨d, h1, h2, h3⟩ := h
  exact h2.once
/-- behind what was done to the dict -/
theorem DiS.of {S : Nat → Prop} {pr : Int} {l' : List Ent} {q d k : Nat} {w w' : World} (hb : Blk q 137 #[.int .i64 pr, .pointer (some ⟨d, 0, none⟩)] w) (hq : S q)
    (hD : DcS (Up (fun b => S b ∧ b ≠ q) w) d k l' w') (hk : Keep (fun b => S b ∧ b ≠ q) w w') : DiS (Up S w) pr l' q k w' ∧ Keep S w w' := by
  have hql := blk_lt hb
  refine ⟨⟨d, blk_keep hb hk (fun h => h.2 rfl), hD.mono (fun b _ h => ?_) (Nat.le_refl _), .inl hq⟩, hk.mono (fun b _ h => h.1)⟩
  rcases h with h | h
  · exact ⟨.inl h.1, h.2⟩
  · exact ⟨.inr h, by omega⟩
theorem dproto_calls {S : Nat → Prop} {pr : Int} {l : List Ent} {q n : Nat} (w : World) (h : DiS S pr l q n w) :
    Calls Tryz.prog 167 #[.pointer (some ⟨q, 0, none⟩)] w fun e w' => e = .returned (.int .i64 pr) ∧ Below w.heap.size w w' := by
  obtain ⟨d, h1, h2, h3⟩ := h
  have c0 : w.cell? ⟨q, 0, none⟩ = some (.int .i64 pr) := by rw [blk_cell h1]; rfl
  clear h1 h2 h3
  go_enter Tryz.func167, Tryz.ntmps167
  go_wp2_with fail
  go_ret
  exact ⟨rfl, Below.refl _ _⟩
theorem dcount_calls {S : Nat → Prop} {pr : Int} {l : List Ent} {q n : Nat} (w : World) (h : DiS S pr l q n w) :
    Calls Tryz.prog 164 #[.pointer (some ⟨q, 0, none⟩)] w fun e w' => e = .returned (.int .i64 (l.length : Int)) ∧ w' = w := by
  obtain ⟨d, h1, h2, h3⟩ := h
  have c1 : w.cell? ⟨q, 1, none⟩ = some (.pointer (some ⟨d, 0, none⟩)) := by rw [blk_cell h1]; rfl
  have HL := hid (len_calls w h2)
  clear h1 h2 h3
  go_enter Tryz.func164, Tryz.ntmps164
  go_wp2_with fail
  refine HL.out.mono ?_
  rintro e1 w1 ⟨rfl, rfl⟩
  go_wp2_with fail
  go_ret
  exact ⟨rfl, rfl⟩
theorem dkey_calls {S : Nat → Prop} {pr : Int} {l : List Ent} {q n : Nat} (w : World) (h : DiS S pr l q n w) (hn : n ≤ 1000000) (i : Int) :
    Calls Tryz.prog 165 #[.pointer (some ⟨q, 0, none⟩), .int .i64 i] w fun e w' => e = .returned (.tuple #[.string ((keyL l i).getD ⟨#[]⟩), .bool (keyL l i).isSome]) ∧ Below w.heap.size w w' := by
  obtain ⟨d, h1, h2, h3⟩ := h
  have c1 : w.cell? ⟨q, 1, none⟩ = some (.pointer (some ⟨d, 0, none⟩)) := by rw [blk_cell h1]; rfl
  have HK : Hid (Calls Tryz.prog 170 #[.pointer (some ⟨d, 0, none⟩), .int .i64 i] w fun e w' => e = .returned (.tuple #[.string ((keyL l i).getD ⟨#[]⟩), .bool (keyL l i).isSome]) ∧ Below w.heap.size w w') := by
    refine hid ?_
    by_cases hi : 0 ≤ i ∧ i < l.length
    · obtain ⟨k, rfl⟩ : ∃ k : Nat, i = (k : Int) := ⟨i.toNat, by omega⟩
      have hk : k < l.length := by omega
      have hx := List.getElem?_eq_getElem hk
      have e : keyL l (k : Int) = some (l[k]).1 := by unfold keyL; rw [if_pos (by omega), Int.toNat_natCast, hx]; rfl
      rw [e]
      exact key_some w h2 hn hx
    · have e : keyL l i = none := by
        unfold keyL
        split
        · rw [List.getElem?_eq_none_iff.2 (by omega)]; rfl
        · rfl
      rw [e]
      exact (key_none w h2 i hi).mono (fun e1 w1 h => ⟨h.1, by rw [h.2]; exact Below.refl _ _⟩)
  clear h1 h2 h3
  generalize keyL l i = o at *
  go_enter Tryz.func165, Tryz.ntmps165
  go_wp2_with fail
  refine HK.out.mono ?_
  rintro e1 w1 ⟨rfl, b1⟩
  have B1 := hid b1
  clear b1
  go_wp2_with fail
  go_ret2
  exact ⟨rfl, B1.out⟩
set_option maxHeartbeats 1000000 in
theorem down_calls {S : Nat → Prop} {pr : Int} {l : List Ent} {q n : Nat} (w : World) (h : DiS S pr l q n w) (s : ByteArray) (hs : s.size ≤ 1000000) :
    Calls Tryz.prog 166 #[.pointer (some ⟨q, 0, none⟩), .string s] w fun e w' => e = .returned (.tuple #[vlV (gotV l s), .bool (hasL l s)]) ∧ Below w.heap.size w w' := by
  have A := (Below.refl w.heap.size w).alloc (Nat.le_refl _) (Obj.cells #[.int .i64 0, .int .i64 0, .string ⟨#[]⟩] 26)
  obtain ⟨d, h1, h2, h3⟩ := h
  have c1 : w.cell? ⟨q, 1, none⟩ = some (.pointer (some ⟨d, 0, none⟩)) := by rw [blk_cell h1]; rfl
  have hq := blk_lt h1
  have HV := hid (get_calls _ (h2.on A) s hs)
  have hS := hid (slot_new w rfl 26)
  have HA := hid A
  unfold vlV at HV ⊢
  clear h1 h2 A h3
  go_enter Tryz.func166, Tryz.ntmps166
  go_wp2_with fail
  refine HV.out.mono ?_
  rintro e2 w2 ⟨rfl, b2⟩
  have HS2 := hid (slot_on hS.out b2)
  have HB := hid (below_on HA.out b2)
  clear b2 hS HA HV
  obtain ⟨g0, g1, g2, g3, g4, g5, g6⟩ := HS2.out
  go_wp2_with fail
  exact bodyPost_ret (ret_ve rfl rfl (put3_cells HS2.out _ _ _)) rfl ⟨rfl, put3 HB.out (by simp) _ _ _⟩
set_option maxHeartbeats 1000000 in
theorem dchange_calls {S : Nat → Prop} {pr : Int} {l : List Ent} {q n : Nat} (w : World) (h : DiS S pr l q n w) (hn : n ≤ 1000000) (s : ByteArray) (hs : s.size ≤ 1000000) (x : Vl) :
    Calls Tryz.prog 163 #[.pointer (some ⟨q, 0, none⟩), .string s, vlV x] w fun e w' => e = .returned (.bool (hasL l s)) ∧ DiS (Up S w) pr (if hasL l s then setL l s x else l) q (if hasL l s then n + 1 else n) w' ∧ Keep S w w' := by
  have A := (Below.refl w.heap.size w).alloc (Nat.le_refl _) (Obj.cells #[.int .i64 x.1, .int .i64 x.2.1, .string x.2.2] 26)
  have hd := h
  obtain ⟨d, h1, h2, h3⟩ := h
  have c1 : w.cell? ⟨q, 1, none⟩ = some (.pointer (some ⟨d, 0, none⟩)) := by rw [blk_cell h1]; rfl
  have hq := blk_lt h1
  have HV := hid (get_calls _ (h2.on A) s hs)
  have HA := hid A
  have hcv0 : (w.alloc (Obj.cells #[.int .i64 x.1, .int .i64 x.2.1, .string x.2.2] 26)).cell? ⟨w.heap.size, 0, none⟩ = some (.int .i64 x.1) := by simp
  have hcv1 : (w.alloc (Obj.cells #[.int .i64 x.1, .int .i64 x.2.1, .string x.2.2] 26)).cell? ⟨w.heap.size, 1, none⟩ = some (.int .i64 x.2.1) := by simp
  have hcv2 : (w.alloc (Obj.cells #[.int .i64 x.1, .int .i64 x.2.1, .string x.2.2] 26)).cell? ⟨w.heap.size, 2, none⟩ = some (.string x.2.2) := by simp
  have hwl : w.heap.size < (w.alloc (Obj.cells #[.int .i64 x.1, .int .i64 x.2.1, .string x.2.2] 26)).heap.size := by simp
  have HD := hid hd
  have HB := hid h1
  have HC := hid h2
  have HQ := hid h3
  have d1 := cell_on c1 hq A
  have hq1 : q < (w.alloc (Obj.cells #[.int .i64 x.1, .int .i64 x.2.1, .string x.2.2] 26)).heap.size := by simp; omega
  clear h1 h2 A h3 hd
  cases hh : hasL l s with
  | false =>
    rw [hh] at HV
    rw [if_neg (by simp), if_neg (by simp)]
    unfold vlV at HV ⊢
    generalize gotV l s = z at *
    go_enter Tryz.func163, Tryz.ntmps163
    go_wp2_with fail
    generalize hW : w.alloc (Obj.cells #[.int .i64 x.1, .int .i64 x.2.1, .string x.2.2] 26) = W at *
    refine HV.out.mono ?_
    rintro e2 w2 ⟨rfl, b2⟩
    have B2 := hid (below_in HA.out (Nat.le_refl _) b2)
    clear b2 HV HA
    go_wp2_with fail
    go_ret
    have k := B2.out.trans ((Below.refl w.heap.size w2).alloc B2.out.size (Obj.cells #[.int .i64 z.1, .int .i64 z.2.1, .string z.2.2] 26))
    exact ⟨rfl, ((HD.out.on k).mono (fun _ _ h => .inl h) (Nat.le_refl _)), Keep.of k⟩
  | true =>
    rw [hh] at HV
    rw [if_pos rfl, if_pos rfl]
    unfold vlV at HV ⊢
    generalize gotV l s = z at *
    go_enter Tryz.func163, Tryz.ntmps163
    go_wp2_with fail
    generalize hW : w.alloc (Obj.cells #[.int .i64 x.1, .int .i64 x.2.1, .string x.2.2] 26) = W at *
    refine HV.out.mono ?_
    rintro e2 w2 ⟨rfl, b2⟩
    have B2 := hid (below_in HA.out (Nat.le_refl _) b2)
    have e0 := cell_on hcv0 hwl b2
    have e1 := cell_on hcv1 hwl b2
    have e2 := cell_on hcv2 hwl b2
    have eq1 := cell_on d1 hq1 b2
    have hw2 : w.heap.size < w2.heap.size := Nat.lt_of_lt_of_le hwl b2.size
    have hq2 : q < w2.heap.size := Nat.lt_of_lt_of_le hq1 b2.size
    clear b2 HV HA hcv0 hcv1 hcv2 d1 c1
    have kz := ((Below.refl w2.heap.size w2).alloc (Nat.le_refl _) (Obj.cells #[.int .i64 z.1, .int .i64 z.2.1, .string z.2.2] 26)).drew
    have B3 := hid (below_in B2.out (Nat.le_refl _) kz)
    have HS := hid (dset_calls _ ((HC.out.mono (T := fun b => (S b ∧ b ≠ q) ∧ b < w.heap.size) (fun b hb h => ⟨h, hb⟩) (Nat.le_refl _)).on B3.out) hn s hs x)
    unfold vlV at HS
    clear kz
    go_wp2_with fail
    refine wp_region_held_drew (S := fun a => a.cell? ⟨q, 1, none⟩ = some (.pointer (some ⟨d, 0, none⟩)) ∧ a.cell? ⟨w.heap.size, 0, none⟩ = some (.int .i64 x.1) ∧ a.cell? ⟨w.heap.size, 1, none⟩ = some (.int .i64 x.2.1) ∧ a.cell? ⟨w.heap.size, 2, none⟩ = some (.string x.2.2)) (by kernel_rfl) ?_ (fun hHeld => ?_)
    · (refine ⟨?_, ?_, ?_, ?_⟩ <;> go_simp)
    refine wpAnyH_take (i := 0) (v := ?v1) rfl (by kernel_rfl) (by kernel_rfl) (by kernel_rfl) (fun _ _ _ h => h) (Or.inl ⟨by rfl, ?hy1⟩) (by assumption) ?_
    case hy1 => (intro w hSw; go_simp <;> (try with_reducible rfl))
    simp only [Act.put, List.setIfInBounds_toArray, List.set_cons_zero, List.set_cons_succ, List.getElem_toArray, List.getElem_cons_succ, List.getElem_cons_zero]
    refine wpAnyH_take (i := 1) (v := ?v2) rfl (by kernel_rfl) (by kernel_rfl) (by kernel_rfl) (fun _ _ _ h => h) (Or.inl ⟨by rfl, ?hy2⟩) (by assumption) ?_
    case hy2 => (intro w hSw; go_simp <;> (try with_reducible rfl))
    simp only [Act.put, List.setIfInBounds_toArray, List.set_cons_zero, List.set_cons_succ, List.getElem_toArray, List.getElem_cons_succ, List.getElem_cons_zero]
    refine wpAnyH_take (i := 2) (v := ?v3) rfl (by kernel_rfl) (by kernel_rfl) (by kernel_rfl) (fun _ _ _ h => h) (Or.inl ⟨by rfl, ?hy3⟩) (by assumption) ?_
    case hy3 => (intro w hSw; go_simp <;> (try with_reducible rfl))
    simp only [Act.put, List.setIfInBounds_toArray, List.set_cons_zero, List.set_cons_succ, List.getElem_toArray, List.getElem_cons_succ, List.getElem_cons_zero]
    refine wpAnyH_take (i := 3) (v := ?v4) rfl (by kernel_rfl) (by kernel_rfl) (by kernel_rfl) (fun _ _ _ h => h) (Or.inl ⟨by rfl, ?hy4⟩) (by assumption) ?_
    case hy4 => (intro w hSw; go_simp <;> (try with_reducible rfl))
    simp only [Act.put, List.setIfInBounds_toArray, List.set_cons_zero, List.set_cons_succ, List.getElem_toArray, List.getElem_cons_succ, List.getElem_cons_zero]
    refine wpAnyH_take (i := 4) (v := ?v5) rfl (by kernel_rfl) (by kernel_rfl) (by kernel_rfl) (fun _ _ _ h => h) (Or.inl ⟨by rfl, ?hy5⟩) (by assumption) ?_
    case hy5 => (intro w hSw; go_simp <;> (try with_reducible rfl))
    simp only [Act.put, List.setIfInBounds_toArray, List.set_cons_zero, List.set_cons_succ, List.getElem_toArray, List.getElem_cons_succ, List.getElem_cons_zero]
    refine wpAnyH_take (i := 5) (v := ?v6) rfl (by kernel_rfl) (by kernel_rfl) (by kernel_rfl) (fun _ _ _ h => h) (Or.inl ⟨by rfl, ?hy6⟩) (by assumption) ?_
    case hy6 => (intro w hSw; go_simp <;> (try with_reducible rfl))
    simp only [Act.put, List.setIfInBounds_toArray, List.set_cons_zero, List.set_cons_succ, List.getElem_toArray, List.getElem_cons_succ, List.getElem_cons_zero]
    refine wpAnyH_ready (rs := [6]) (by kernel_rfl) (by simp) ?_
    refine AllReadyH.cons rfl (fun K hK => ?_) AllReadyH.nil
    go_simp
    refine HS.out.mono ?_
    rintro e3 w3 ⟨rfl, h3, k3⟩
    have hz : w.heap.size < ((w2.alloc (Obj.cells #[.int .i64 z.1, .int .i64 z.2.1, .string z.2.2] 26)).drew).heap.size := by simp; omega
    have R : Hid (DiS (Up S w) pr (setL l s x) q (n + 1) w3 ∧ Keep S w w3) := by
      refine hid ⟨⟨d, blk_keep (blk_on HB.out B3.out) k3 (fun h => h.1.2 rfl), h3.mono (fun b _ h => ?_) (Nat.le_refl _), .inl HQ.out⟩, (Keep.of B3.out).trans k3 (fun b _ h => h.1.1)⟩
      rcases h with h | h
      · exact ⟨.inl h.1.1, h.1.2⟩
      · exact ⟨.inr (by omega), by omega⟩
    have y0 := cell_keep (c := w3) (a := (w2.alloc (Obj.cells #[.int .i64 z.1, .int .i64 z.2.1, .string z.2.2] 26)).drew) (g := q) (i := 1) (v := .pointer (some ⟨d, 0, none⟩)) (by go_simp) (by simp; omega) k3 (fun h => h.1.2 rfl)
    have y1 := cell_keep (c := w3) (a := (w2.alloc (Obj.cells #[.int .i64 z.1, .int .i64 z.2.1, .string z.2.2] 26)).drew) (g := w.heap.size) (i := 0) (v := .int .i64 x.1) (by go_simp) hz k3 (fun h => Nat.lt_irrefl _ h.2)
    have y2 := cell_keep (c := w3) (a := (w2.alloc (Obj.cells #[.int .i64 z.1, .int .i64 z.2.1, .string z.2.2] 26)).drew) (g := w.heap.size) (i := 1) (v := .int .i64 x.2.1) (by go_simp) hz k3 (fun h => Nat.lt_irrefl _ h.2)
    have y3 := cell_keep (c := w3) (a := (w2.alloc (Obj.cells #[.int .i64 z.1, .int .i64 z.2.1, .string z.2.2] 26)).drew) (g := w.heap.size) (i := 2) (v := .string x.2.2) (by go_simp) hz k3 (fun h => Nat.lt_irrefl _ h.2)
    clear h3 k3
    go_simp
    refine hK.out _ _ ?_ (fun _ => ?_)
    · (refine ⟨?_, ?_, ?_, ?_⟩ <;> (first | assumption | go_simp))
    clear hK K
    refine wpAnyH_done (by kernel_rfl) ?_ _
    go_wp2_with fail
    go_ret
    exact ⟨rfl, R.out⟩

end Go.Proofs.YtemidicgipebjaaGreat
