/- The document's table, inside the heap's block. -/
import Derived.Test.YtemidicgipebjaaGreatJoint11
import Derived.Test.YtemidicgipebjaaGreatRoRef
import Derived.Test.YtemidicgipebjaaGreatJoint7
namespace Go.Proofs.YtemidicgipebjaaGreat
set_option linter.unusedSimpArgs false
open Go.RowKit

theorem elTx : Elem 62 9 1 16 := elem_of (z0 := .string ⟨#[]⟩) (by kernel_rfl) (by kernel_rfl) rfl
/-- the document's table in the block r: its row in v, the heap's other cells A B C D -/
structure RtH (A B C D : Value) (r : Nat) (v : Value) (L : List ByteArray) (w : World) : Prop where
  blk : Blk r 76 #[A, B, C, D, v] w
  row : w.ownsRow 0 9 1 v L.length (L.map Value.string)
set_option maxHeartbeats 1000000 in
theorem hrfind_calls {A B C D v : Value} {r : Nat} {L : List ByteArray} (w : World) (h : RtH A B C D r v L w) (s : ByteArray) (hl : L.length ≤ 1000000) :
    Calls Tryz.prog 84 #[.pointer (some ⟨r, 4, none⟩), .string s] w fun e w' => e = .returned (.tuple #[.int .i64 (findT L s : Int), .bool (atT L s).isSome]) ∧ w' = w := by
  obtain ⟨h1, h2⟩ := h
  obtain ⟨ao, cap, rfl⟩ := row_shape h2
  have c0 : w.cell? ⟨r, 4, none⟩ = some (.slice ao L.length cap) := by rw [blk_cell h1]; rfl
  have H := hid h2
  clear h1 h2
  go_enter Tryz.func84, Tryz.ntmps84
  go_wp2_with fail
  go_loopw [6] (fun i wr => ∃ j : Nat, j ≤ L.length ∧ i = .int .i64 j ∧ Hid (∀ i x, i < j → L[i]? = some x → x ≠ s) ∧ wr = w) (fun i _ => L.length - (intOf i).toNat)
  case atStart => exact ⟨0, by omega, rfl, hid (fun i e hi => absurd hi (Nat.not_lt_zero _)), rfl⟩
  case round =>
    obtain ⟨j, hj, rfl, hA, rfl⟩ := hrel
    by_cases hjl : j < L.length
    · obtain ⟨e, he⟩ : ∃ e, L[j]? = some e := ⟨L[j], List.getElem?_eq_getElem hjl⟩
      obtain ⟨g, cp, hg, hgl, c2⟩ := row_text H.out he
      injection hg with hg1 hg2 hg3
      subst hg1 hg3
      by_cases hes : e = s
      · have HV := hid (show findT L s = j + 1 ∧ (atT L s).isSome = true by unfold findT; rw [atT_first hA.out (by rw [he, hes])]; exact ⟨rfl, rfl⟩)
        rw [hes] at c2
        clear hes he
        go_wp2_with fail
        go_ret2
        refine ⟨?_, rfl⟩
        rw [HV.out.1, HV.out.2]
        simp
      · have hnb := text_ne hes
        have HA := hid (show ∀ i x, i < j + 1 → L[i]? = some x → x ≠ s from fun i e' hi he' => by
          rcases Nat.lt_or_ge i j with h1 | h1
          · exact hA.out i e' h1 he'
          · have : i = j := by omega
            subst this
            rw [he] at he'
            cases he'
            exact hes)
        clear hes hA
        go_wp2_with fail
        exact ⟨⟨j + 1, by omega, by simp, HA, trivial⟩, by simp [intOf]; omega⟩
    · have hje : j = L.length := by omega
      subst hje
      have HV := hid (show findT L s = 0 ∧ (atT L s).isSome = false by
        unfold findT
        rw [atT_none (fun e he => by
          obtain ⟨i, hi⟩ := List.getElem?_of_mem he
          exact hA.out i e (List.getElem?_eq_some_iff.1 hi).1 hi)]
        exact ⟨rfl, rfl⟩)
      go_wp2_with fail
      go_ret2
      refine ⟨?_, rfl⟩
      rw [HV.out.1, HV.out.2]
      rfl
theorem hrtext_some {A B C D v : Value} {r i : Nat} {L : List ByteArray} {s : ByteArray} (w : World) (h : RtH A B C D r v L w) (hi : L[i]? = some s) (hl : L.length ≤ 1000000) :
    Calls Tryz.prog 78 #[.pointer (some ⟨r, 4, none⟩), .int .i64 ((i : Int) + 1)] w fun e w' => e = .returned (.tuple #[.string s, .bool true]) ∧ w' = w := by
  have hil : i < L.length := (List.getElem?_eq_some_iff.1 hi).1
  obtain ⟨h1, h2⟩ := h
  obtain ⟨g, cap, rfl, hg, c3⟩ := row_text h2 hi
  have c0 : w.cell? ⟨r, 4, none⟩ = some (.slice (some ⟨g, 0, none⟩) L.length cap) := by rw [blk_cell h1]; rfl
  have d1 : decide ((i : Int) + 1 < 1) = false := decide_eq_false (by omega)
  have d2 : decide ((L.length : Int) < (i : Int) + 1) = false := decide_eq_false (by omega)
  clear h1 h2 hi
  go_enter Tryz.func78, Tryz.ntmps78
  go_wp2_with fail
  go_ret2
  exact ⟨rfl, rfl⟩
theorem hrtext_none {A B C D v : Value} {r : Nat} {L : List ByteArray} (w : World) (h : RtH A B C D r v L w) (i : Int) (hi : ¬ (1 ≤ i ∧ i ≤ L.length)) :
    Calls Tryz.prog 78 #[.pointer (some ⟨r, 4, none⟩), .int .i64 i] w fun e w' => e = .returned (.tuple #[.string ⟨#[]⟩, .bool false]) ∧ w' = w := by
  obtain ⟨h1, h2⟩ := h
  obtain ⟨ao, cap, rfl⟩ := row_shape h2
  have c0 : w.cell? ⟨r, 4, none⟩ = some (.slice ao L.length cap) := by rw [blk_cell h1]; rfl
  clear h1 h2
  by_cases h0 : i < 1
  · clear hi
    go_enter Tryz.func78, Tryz.ntmps78
    go_wp2_with fail
    go_ret2
    exact ⟨rfl, rfl⟩
  · have d1 : decide (i < 1) = false := decide_eq_false h0
    have d2 : decide ((L.length : Int) < i) = true := decide_eq_true (by omega)
    clear hi h0
    go_enter Tryz.func78, Tryz.ntmps78
    go_wp2_with fail
    go_ret2
    exact ⟨rfl, rfl⟩


set_option maxHeartbeats 1000000 in
theorem hrof_new {A B C D v : Value} {r : Nat} {L : List ByteArray} (w : World) (h : RtH A B C D r v L w) (s : ByteArray) (hi : atT L s = none) (hl : L.length ≤ 1000000) :
    Calls Tryz.prog 81 #[.pointer (some ⟨r, 4, none⟩), .string s] w fun e w' => e = .returned (.int .i64 ((L.length + 1 : Nat) : Int)) ∧
      ∃ v', RtH A B C D r v' (L ++ [s]) w' ∧ Keep (fun b => b = r ∨ v.ownBlock = some b) w w' ∧ ∀ g, v'.ownBlock = some g → v.ownBlock = some g ∨ w.heap.size ≤ g := by
  have HF := hid (hrfind_calls w h s hl)
  rw [show findT L s = 0 from by unfold findT; rw [hi], show (atT L s).isSome = false from by rw [hi]; rfl] at HF
  obtain ⟨h1, h2⟩ := h
  obtain ⟨ao, cap, rfl⟩ := row_shape h2
  have c0 : w.cell? ⟨r, 4, none⟩ = some (.slice ao L.length cap) := by rw [blk_cell h1]; rfl
  have hr := blk_lt h1
  have HB := hid h1
  have RW := hid h2
  have hne : (Value.slice ao L.length cap).ownBlock ≠ some r := fun e => by
    obtain ⟨cur, hc⟩ := row_lt h2 e
    exact absurd (blk_type hc h1) (by decide)
  have HN := hid hne
  clear h1 h2 hi hne
  go_enter Tryz.func81, Tryz.ntmps81
  go_wp2_with fail
  refine HF.out.mono ?_
  rintro e1 w1 ⟨rfl, rfl⟩
  go_wp2_with (first | (at_builtin; refine row_app elTx (by decide) (by decide) rfl _ _ rfl L.length (L.map Value.string) [.string s] rfl (by intro u hu; simp at hu; subst hu; rfl) (.slice ao L.length cap) (by rfl) RW.out w1.heap.size (by rfl) rfl hl ?_; intro g cp w3 hown hgrow hat; have q0 : w3.cell? ⟨r, 4, none⟩ = some (.slice ao L.length cap) := (hgrow.cell_far ⟨r, 4, none⟩ hr (fun e => HN.out e.symm)).trans c0; have q1 : w3.frozen? ⟨r, 4, none⟩ = false := (hgrow.frozen_far ⟨r, 4, none⟩ hr (fun e => HN.out e.symm)).trans (blk_free HB.out 4); have HO := hid hown; have HG := hid hgrow; have HT := hid hat; clear hown hgrow hat) | fail)
  go_ret
  have b3 : Blk r 76 #[A, B, C, D, .slice ao L.length cap] w3 := (HG.out.block r hr (fun e => HN.out e.symm)).trans HB.out
  have k3 : Keep (fun b => b = r ∨ (Value.slice ao L.length cap).ownBlock = some b) w1 w3 := Keep.grown HG.out (fun k hk => .inr hk)
  have K3 := Keep.set (S := fun b => b = r) rfl w3 4 (.slice (some ⟨g, 0, none⟩) (L.length + 1) cp)
  have hgr : g ≠ r := fun e => by
    rcases HT.out with h | h
    · exact HN.out (e ▸ h)
    · omega
  refine ⟨rfl, _, ⟨blk_set b3 4 _, ?_⟩, k3.trans K3 (fun b _ e => .inl e), fun k hk => ?_⟩
  · rw [List.length_append, List.map_append]
    exact row_keep HO.out (fun k hk => by
      simp [Value.ownBlock] at hk
      subst hk
      obtain ⟨cur, hc⟩ := row_lt HO.out (g := g) rfl
      exact K3.block g (blk_lt hc) hgr)
  · simp [Value.ownBlock] at hk
    subst hk
    exact HT.out
theorem hrof_calls {A B C D v : Value} {r : Nat} {L : List ByteArray} (w : World) (h : RtH A B C D r v L w) (s : ByteArray) (hl : L.length ≤ 1000000) :
    Calls Tryz.prog 81 #[.pointer (some ⟨r, 4, none⟩), .string s] w fun e w' => e = .returned (.int .i64 (numT L s : Int)) ∧
      ∃ v', RtH A B C D r v' (ofT L s) w' ∧ Keep (fun b => b = r ∨ v.ownBlock = some b) w w' ∧ ∀ g, v'.ownBlock = some g → v.ownBlock = some g ∨ w.heap.size ≤ g := by
  cases hi : atT L s with
  | some i =>
    have HF := hid (hrfind_calls w h s hl)
    rw [show findT L s = i + 1 from by unfold findT; rw [hi], show (atT L s).isSome = true from by rw [hi]; rfl] at HF
    rw [show numT L s = i + 1 from by unfold numT; rw [hi], show ofT L s = L from by unfold ofT; rw [hi]; rfl]
    have R := hid h
    clear h hi
    go_enter Tryz.func81, Tryz.ntmps81
    go_wp2_with fail
    refine HF.out.mono ?_
    rintro e1 w1 ⟨rfl, rfl⟩
    go_wp2_with fail
    go_ret
    exact ⟨rfl, v, R.out, Keep.refl _ _, fun g h => .inl h⟩
  | none =>
    rw [show numT L s = L.length + 1 from by unfold numT; rw [hi], show ofT L s = L ++ [s] from by unfold ofT; rw [hi]; rfl]
    exact hrof_new w h s hi hl

end Go.Proofs.YtemidicgipebjaaGreat
