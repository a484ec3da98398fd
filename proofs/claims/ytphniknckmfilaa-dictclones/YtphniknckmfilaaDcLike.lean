/- Whether a dict has what the document's has. -/
import Derived.Test.YtphniknckmfilaaDcDone
namespace Go.Proofs.Ytphniknckmfilaa
set_option linter.unusedSimpArgs false
open Go.RowKit

theorem look_at {l : List Ent} {k : Nat} {e : Ent} (ho : OnceL l) (h : l[k]? = some e) : hasL l e.1 = true ∧ gotV l e.1 = e.2 := by
  have h1 := (atV_is (s := e.1) ho h).2 rfl
  unfold atV at h1
  cases hat : atN l e.1 with
  | none => rw [hat] at h1; simp at h1
  | some i =>
    rw [hat] at h1
    have : i = k := by simp at h1; omega
    subst this
    obtain ⟨v, h2, h3⟩ := atN_at hat
    rw [h] at h2
    have hv : e.2 = v := by injection h2 with h2; rw [h2]
    refine ⟨by unfold hasL; rw [h3]; rfl, ?_⟩
    unfold gotV; rw [h3, hv]; rfl

set_option maxHeartbeats 4000000 in
set_option maxRecDepth 100000 in
theorem like_calls {S R : Nat → Prop} {d r n : Nat} {l : List Ent} (w : World) (h : Pair S R d r n l l w) (hn : n ≤ 1000000) :
    Calls Try.prog 11 #[.pointer (some ⟨d, 0, none⟩), .pointer (some ⟨r, 0, none⟩)] w fun e w' => e = .returned (.bool true) ∧ Below w.heap.size w w' := by
  have hone := h.ds.once.1
  have hln : l.length ≤ 1000000 := Nat.le_trans h.ds.once.2 hn
  obtain ⟨nv, vv, hr, _, _, _⟩ := h.rs
  obtain ⟨na, nc, rfl⟩ := row_shape hr.nam
  obtain ⟨va, vc, rfl⟩ := row_shape hr.val
  have D := hid h.ds
  have HR := hid hr
  have HO := hid hone
  have hrl := hr.lt (.inl rfl)
  have HN := hid (dnames_calls w h.ds hn)
  clear h hr hone
  go_enter Try.func11, Try.ntmps11
  go_wp2_with fail
  refine HN.out.mono ?_
  rintro e1 w1 ⟨u, rfl, su, b1⟩
  obtain ⟨ua, uc, rfl⟩ := row_shape su.1
  simp only [List.length_map] at su
  have SU := hid su
  have B1 := hid b1
  have D1 := hid (D.out.on b1)
  have HR1 := hid (HR.out.on b1)
  have hz1 := b1.size
  simp only [List.length_map]
  clear su b1 HN D HR
  obtain ⟨c0, c1⟩ := HR1.out.cells
  go_wp2_with fail
  refine wp_region_held_drew (S := fun a => a.cell? ⟨r, 0, none⟩ = some (.slice na l.length nc)) (by kernel_rfl) c0 (fun hHeld => ?_)
  refine wpAnyH_take (i := 0) (v := ?v1) rfl (by kernel_rfl) (by kernel_rfl) (by kernel_rfl) (fun _ _ _ h => h) (Or.inl ⟨by rfl, ?hy1⟩) (by assumption) ?_
  case hy1 => (intro w hSw; go_simp <;> (try with_reducible rfl))
  simp only [Act.put, List.setIfInBounds_toArray, List.set_cons_zero, List.set_cons_succ, List.getElem_toArray, List.getElem_cons_succ, List.getElem_cons_zero]
  refine wpAnyH_take (i := 2) (v := ?v2) rfl (by kernel_rfl) (by kernel_rfl) (by kernel_rfl) (fun _ _ _ h => h) (Or.inl ⟨by rfl, ?hy2⟩) (by assumption) ?_
  case hy2 => (intro w hSw; go_simp <;> (try with_reducible rfl))
  simp only [Act.put, List.setIfInBounds_toArray, List.set_cons_zero, List.set_cons_succ, List.getElem_toArray, List.getElem_cons_succ, List.getElem_cons_zero]
  refine wpAnyH_take (i := 3) (v := ?v3) rfl (by kernel_rfl) (by kernel_rfl) (by kernel_rfl) (fun _ _ _ h => h) (Or.inl ⟨by rfl, ?hy3⟩) (by assumption) ?_
  case hy3 => (intro w hSw; go_simp <;> (try with_reducible rfl))
  simp only [Act.put, List.setIfInBounds_toArray, List.set_cons_zero, List.set_cons_succ, List.getElem_toArray, List.getElem_cons_succ, List.getElem_cons_zero]
  refine wpAnyH_take (i := 4) (v := ?v4) rfl (by kernel_rfl) (by kernel_rfl) (by kernel_rfl) (fun _ _ _ h => h) (Or.inl ⟨by rfl, ?hy4⟩) (by assumption) ?_
  case hy4 => (intro w hSw; go_simp <;> (try with_reducible rfl))
  simp only [Act.put, List.setIfInBounds_toArray, List.set_cons_zero, List.set_cons_succ, List.getElem_toArray, List.getElem_cons_succ, List.getElem_cons_zero]
  refine wpAnyH_take (i := 5) (v := ?v5) rfl (by kernel_rfl) (by kernel_rfl) (by kernel_rfl) (fun _ _ _ h => h) (Or.inl ⟨by rfl, ?hy5⟩) (by assumption) ?_
  case hy5 => (intro w hSw; go_simp <;> (try with_reducible rfl))
  simp only [Act.put, List.setIfInBounds_toArray, List.set_cons_zero, List.set_cons_succ, List.getElem_toArray, List.getElem_cons_succ, List.getElem_cons_zero]
  refine wpAnyH_take (i := 6) (v := ?v6) rfl (by kernel_rfl) (by kernel_rfl) (by kernel_rfl) (fun _ _ _ h => h) (Or.inl ⟨by rfl, ?hy6⟩) (by assumption) ?_
  case hy6 => (intro w hSw; go_simp <;> (try with_reducible rfl))
  simp only [Act.put, List.setIfInBounds_toArray, List.set_cons_zero, List.set_cons_succ, List.getElem_toArray, List.getElem_cons_succ, List.getElem_cons_zero]
  refine wpAnyH_ready (rs := [1]) (by kernel_rfl) (by simp) ?_
  refine AllReadyH.cons rfl (fun K hK => ?_) AllReadyH.nil
  have HK := hid hK
  clear hK
  go_simp
  refine (len_calls _ (D1.out.on (Below.refl _ _).drew)).mono ?_
  rintro e2 w2 ⟨rfl, rfl⟩
  refine HK.out.out _ _ c0 (fun _ => ?_)
  clear HK K
  refine wpAnyH_take (i := 7) (v := ?v8) rfl (by kernel_rfl) (by kernel_rfl) (by kernel_rfl) (fun _ _ _ h => h) (Or.inl ⟨by rfl, ?hy8⟩) (by assumption) ?_
  case hy8 => (intro w hSw; go_simp <;> (try with_reducible rfl))
  simp only [Act.put, List.setIfInBounds_toArray, List.set_cons_zero, List.set_cons_succ, List.getElem_toArray, List.getElem_cons_succ, List.getElem_cons_zero]
  refine wpAnyH_take (i := 8) (v := ?v9) rfl (by kernel_rfl) (by kernel_rfl) (by kernel_rfl) (fun _ _ _ h => h) (Or.inl ⟨by rfl, ?hy9⟩) (by assumption) ?_
  case hy9 => (intro w hSw; go_simp <;> (try with_reducible rfl))
  simp only [Act.put, List.setIfInBounds_toArray, List.set_cons_zero, List.set_cons_succ, List.getElem_toArray, List.getElem_cons_succ, List.getElem_cons_zero]
  refine wpAnyH_take (i := 9) (v := ?v10) rfl (by kernel_rfl) (by kernel_rfl) (by kernel_rfl) (fun _ _ _ h => h) (Or.inl ⟨by rfl, ?hy10⟩) (by assumption) ?_
  case hy10 => (intro w hSw; go_simp <;> (try with_reducible rfl))
  simp only [Act.put, List.setIfInBounds_toArray, List.set_cons_zero, List.set_cons_succ, List.getElem_toArray, List.getElem_cons_succ, List.getElem_cons_zero]
  refine wpAnyH_take (i := 10) (v := ?v11) rfl (by kernel_rfl) (by kernel_rfl) (by kernel_rfl) (fun _ _ _ h => h) (Or.inl ⟨by rfl, ?hy11⟩) (by assumption) ?_
  case hy11 => (intro w hSw; go_simp <;> (try with_reducible rfl))
  simp only [Act.put, List.setIfInBounds_toArray, List.set_cons_zero, List.set_cons_succ, List.getElem_toArray, List.getElem_cons_succ, List.getElem_cons_zero]
  refine wpAnyH_take (i := 11) (v := ?v12) rfl (by kernel_rfl) (by kernel_rfl) (by kernel_rfl) (fun _ _ _ h => h) (Or.inl ⟨by rfl, ?hy12⟩) (by assumption) ?_
  case hy12 => (intro w hSw; go_simp <;> (try with_reducible rfl))
  simp only [Act.put, List.setIfInBounds_toArray, List.set_cons_zero, List.set_cons_succ, List.getElem_toArray, List.getElem_cons_succ, List.getElem_cons_zero]
  refine wpAnyH_take (i := 12) (v := ?v13) rfl (by kernel_rfl) (by kernel_rfl) (by kernel_rfl) (fun _ _ _ h => h) (Or.inl ⟨by rfl, ?hy13⟩) (by assumption) ?_
  case hy13 => (intro w hSw; go_simp <;> (try with_reducible rfl))
  simp only [Act.put, List.setIfInBounds_toArray, List.set_cons_zero, List.set_cons_succ, List.getElem_toArray, List.getElem_cons_succ, List.getElem_cons_zero]
  refine wpAnyH_take (i := 13) (v := ?v14) rfl (by kernel_rfl) (by kernel_rfl) (by kernel_rfl) (fun _ _ _ h => h) (Or.inl ⟨by rfl, ?hy14⟩) (by assumption) ?_
  case hy14 => (intro w hSw; go_simp <;> (try with_reducible rfl))
  simp only [Act.put, List.setIfInBounds_toArray, List.set_cons_zero, List.set_cons_succ, List.getElem_toArray, List.getElem_cons_succ, List.getElem_cons_zero]
  refine wpAnyH_take (i := 14) (v := ?v15) rfl (by kernel_rfl) (by kernel_rfl) (by kernel_rfl) (fun _ _ _ h => h) (Or.inl ⟨by rfl, ?hy15⟩) (by assumption) ?_
  case hy15 => (intro w hSw; go_simp <;> (try with_reducible rfl))
  simp only [Act.put, List.setIfInBounds_toArray, List.set_cons_zero, List.set_cons_succ, List.getElem_toArray, List.getElem_cons_succ, List.getElem_cons_zero]
  refine wpAnyH_take (i := 15) (v := ?v16) rfl (by kernel_rfl) (by kernel_rfl) (by kernel_rfl) (fun _ _ _ h => h) (Or.inl ⟨by rfl, ?hy16⟩) (by assumption) ?_
  case hy16 => (intro w hSw; go_simp <;> (try with_reducible rfl))
  simp only [Act.put, List.setIfInBounds_toArray, List.set_cons_zero, List.set_cons_succ, List.getElem_toArray, List.getElem_cons_succ, List.getElem_cons_zero]
  refine wpAnyH_take (i := 16) (v := ?v17) rfl (by kernel_rfl) (by kernel_rfl) (by kernel_rfl) (fun _ _ _ h => h) (Or.inl ⟨by rfl, ?hy17⟩) (by assumption) ?_
  case hy17 => (intro w hSw; go_simp <;> (try with_reducible rfl))
  simp only [Act.put, List.setIfInBounds_toArray, List.set_cons_zero, List.set_cons_succ, List.getElem_toArray, List.getElem_cons_succ, List.getElem_cons_zero]
  refine wpAnyH_take (i := 17) (v := ?v18) rfl (by kernel_rfl) (by kernel_rfl) (by kernel_rfl) (fun _ _ _ h => h) (Or.inl ⟨by rfl, ?hy18⟩) (by assumption) ?_
  case hy18 => (intro w hSw; go_simp <;> (try with_reducible rfl))
  simp only [Act.put, List.setIfInBounds_toArray, List.set_cons_zero, List.set_cons_succ, List.getElem_toArray, List.getElem_cons_succ, List.getElem_cons_zero]
  refine wpAnyH_done (by kernel_rfl) ?_ _
  go_wp2_with fail
  go_loopw [6] (fun i wr => ∃ j : Nat, j ≤ l.length + 2 ∧ i = .int .i64 ((j : Int) - 1) ∧ Hid (Below w1.heap.size w1 wr)) (fun i _ => l.length + 2 - (intOf i + 1).toNat)
  case atStart => exact ⟨0, by omega, rfl, hid ((Below.refl _ _).drew)⟩
  case round =>
    obtain ⟨j, hj, rfl, hB⟩ := hrel
    have D2 := hid (D1.out.on hB.out)
    have R2 := hid (HR1.out.on hB.out)
    have S2 := hid (strsOwn_on SU.out hB.out)
    obtain ⟨c2, c3⟩ := R2.out.cells
    by_cases hje : j = l.length + 2
    · subst hje
      have dd : decide (((l.length + 2 : Nat) : Int) - 1 ≤ (l.length : Int)) = false := decide_eq_false (by omega)
      go_wp2_with fail
      go_ret
      exact ⟨rfl, below_on B1.out hB.out⟩
    · have dd : decide ((j : Int) - 1 ≤ (l.length : Int)) = true := decide_eq_true (by omega)
      have es : ((j : Int) - 1 + 1) = (j : Int) := by omega
      by_cases hin : 1 ≤ j ∧ j ≤ l.length
      · obtain ⟨k, rfl⟩ : ∃ k, j = k + 1 := ⟨j - 1, by omega⟩
        have ek : (((k + 1 : Nat) : Int) - 1) = (k : Int) := by omega
        rw [ek] at dd
        rw [ek]
        clear es ek
        have hkl : k < l.length := by omega
        obtain ⟨e, he⟩ : ∃ e, l[k]? = some e := ⟨l[k], List.getElem?_eq_getElem hkl⟩
        have hla := look_at HO.out.1 he
        have hsz := HO.out.2 e (List.mem_of_getElem? he)
        have HK1 := hid (key_some _ D2.out hn he)
        obtain ⟨g, cp, hg, hgl⟩ := strs_form S2.out (by rw [List.length_map]; omega)
        injection hg with hg1 hg2 hg3
        subst hg1 hg3
        have S2' : StrsOwn w.heap.size (.slice (some ⟨g, 0, none⟩) (l.map (·.1)).length uc) (l.map (·.1)) wr := by rw [List.length_map]; exact S2.out
        have hx1 := strs_at S2' (j := k) (s := e.1) (by simp [he])
        clear S2'
        obtain ⟨gv, cv, hgv, hgvl, v0, v1, v2, _⟩ := R2.out.value he
        injection hgv with hgv1 hgv2 hgv3
        subst hgv1 hgv3
        obtain ⟨en, ex⟩ := e
        simp only at hla hsz hx1 v0 v1 v2 HK1
        clear hg2 hgv2
        go_wp2_with fail
        refine HK1.out.mono ?_
        rintro e3 w3 ⟨rfl, b3⟩
        have D3 := hid (D2.out.on b3)
        have R3 := hid (R2.out.on b3)
        have B3 := hid (below_on hB.out b3)
        have hx3 : w3.cell? ⟨g, k, none⟩ = some (.string en) := (b3.cell (p := ⟨g, k, none⟩) hgl).trans hx1
        clear b3 HK1 hx1 v0 v1 v2
        go_wp2_with fail
        refine (rkey_some _ R3.out he).mono ?_
        rintro e4 w4 ⟨rfl, rfl⟩
        have HG := hid (get_calls _ D3.out en hsz)
        rw [hla.1, hla.2] at HG
        unfold vlV at HG
        go_wp2_with fail
        refine HG.out.mono ?_
        rintro e5 w5 ⟨rfl, b5⟩
        have A5 := b5.alloc b5.size (Obj.cells #[.int .i64 ex.1, .int .i64 ex.2.1, .string ex.2.2] 32)
        have B5 := hid (below_on B3.out A5)
        have R5 := R3.out.on b5
        obtain ⟨c5, c6⟩ := R5.cells
        obtain ⟨g5, k5, h5, hl5, v0, v1, v2, _⟩ := R5.value he
        injection h5 with h5a h5b h5c
        injection h5a with h5a
        injection h5a with h5a
        subst h5a
        have hr5 := R5.lt (b := r) (.inl rfl)
        clear b5 A5 HG R5 hla hx3 h5b h5c c0 c1 c2 c3
        simp only at v0 v1 v2
        go_wp2_with fail
        go_quiet (fail)
        go_wp2_with fail
        exact ⟨⟨k + 1 + 1, by omega, by simp, hid (below_drewN B5.out _)⟩, by simp [intOf]; omega⟩
      · have hno : ¬ (0 ≤ (j : Int) - 1 ∧ (j : Int) - 1 < l.length) := by omega
        have HG := hid (get_calls _ D2.out ⟨#[]⟩ (by decide))
        obtain ⟨⟨x1, x2, x3⟩, hx⟩ : ∃ v, gotV l ⟨#[]⟩ = v := ⟨_, rfl⟩
        rw [hx] at HG
        clear hx
        generalize hasL l ⟨#[]⟩ = hb at HG
        unfold vlV at HG
        go_wp2_with fail
        refine (key_none _ D2.out _ hno).mono ?_
        rintro e3 w3 ⟨rfl, rfl⟩
        go_wp2_with fail
        refine (rkey_none _ R2.out _ hno).mono ?_
        rintro e4 w4 ⟨rfl, rfl⟩
        go_wp2_with fail
        refine HG.out.mono ?_
        rintro e5 w5 ⟨rfl, b5⟩
        have A5 := b5.alloc b5.size (Obj.cells #[.int .i64 x1, .int .i64 x2, .string x3] 32)
        have B5 := hid (below_on hB.out A5)
        clear b5 A5 HG
        go_wp2_with fail
        go_quiet (fail)
        go_wp2_with fail
        exact ⟨⟨j + 1, by omega, by simp, hid (below_drewN B5.out _)⟩, by simp [intOf]; omega⟩

end Go.Proofs.Ytphniknckmfilaa
