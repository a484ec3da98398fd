/- The document's table. -/
import Derived.Test.YtblejdoceppfjaaNmArg
import Derived.Test.YtblejdoceppfjaaRowApp
namespace Go.Proofs.Ytblejdoceppfjaa
set_option linter.unusedSimpArgs false
open Go.RowKit

theorem elTx : Elem 22 9 1 16 := elem_of (z0 := .string ⟨#[]⟩) (by kernel_rfl) (by kernel_rfl) rfl
theorem text_ne {s t : ByteArray} (h : s ≠ t) : (s.toList == t.toList) = false := by
  rw [beq_eq_false_iff_ne, Lib.toList_data, Lib.toList_data]
  intro e
  apply h
  cases s; cases t
  simp at e
  rw [e]
/-- the document's table at r, in the blocks of S -/
def RtS (S : Nat → Prop) (r : Nat) (L : List ByteArray) (w : World) : Prop :=
  ∃ v, Blk r 29 #[v] w ∧ w.ownsRow 0 9 1 v L.length (L.map Value.string) ∧ S r ∧ ∀ g, v.ownBlock = some g → S g
theorem RtS.mono {S T : Nat → Prop} {t : Nat} {L : List ByteArray} {w : World} (h : RtS S t L w) (hS : ∀ b, b < w.heap.size → S b → T b) : RtS T t L w := by
  obtain ⟨v, h1, h2, h3, h4⟩ := h
  exact ⟨v, h1, h2, hS t (blk_lt h1) h3, fun b hb => by
    obtain ⟨cur, hc⟩ := row_lt h2 hb
    exact hS b (blk_lt hc) (h4 b hb)⟩
theorem RtS.keep {S T : Nat → Prop} {t : Nat} {L : List ByteArray} {a c : World} (h : RtS S t L a) (k : Keep T a c) (hT : ∀ b, b < a.heap.size → S b → ¬ T b) : RtS S t L c := by
  obtain ⟨v, h1, h2, h3, h4⟩ := h
  exact ⟨v, blk_keep h1 k (hT t (blk_lt h1) h3), row_keep h2 (fun g hg => by
    obtain ⟨cur, hc⟩ := row_lt h2 hg
    exact k.block g (blk_lt hc) (hT g (blk_lt hc) (h4 g hg))), h3, h4⟩
theorem RtS.on {S : Nat → Prop} {t : Nat} {L : List ByteArray} {a c : World} (h : RtS S t L a) (k : Below a.heap.size a c) : RtS S t L c :=
  h.keep (T := fun _ => False) (Keep.of k) (fun _ _ _ h => h)
theorem rt_new (w : World) : RtS (fun b => w.heap.size ≤ b) w.heap.size [] (w.alloc (.cells #[.slice none 0 0] 29)) :=
  ⟨.slice none 0 0, blk_new _ _ _, ⟨rfl, .inl ⟨rfl, rfl⟩⟩, Nat.le_refl _, fun g hg => by simp [Value.ownBlock] at hg⟩

set_option maxHeartbeats 1000000 in
theorem rfind_calls {S : Nat → Prop} {r : Nat} {L : List ByteArray} (w : World) (h : RtS S r L w) (s : ByteArray) (hl : L.length ≤ 1000000) :
    Calls Try.prog 14 #[.pointer (some ⟨r, 0, none⟩), .string s] w fun e w' => e = .returned (.tuple #[.int .i64 (findT L s : Int), .bool (atT L s).isSome]) ∧ w' = w := by
  obtain ⟨v, h1, h2, _, _⟩ := h
  obtain ⟨ao, cap, rfl⟩ := row_shape h2
  have c0 : w.cell? ⟨r, 0, none⟩ = some (.slice ao L.length cap) := by rw [blk_cell h1]; rfl
  have H := hid h2
  clear h1 h2
  go_enter Try.func14, Try.ntmps14
  go_wp2_with fail
  go_loopw [6] (fun i wr => ∃ j : Nat, j ≤ L.length ∧ i = .int .i64 j ∧ Hid (∀ i x, i < j → L[i]? = some x → x ≠ s) ∧ wr = w) (fun i _ => L.length - (intOf i).toNat)
  case atStart => exact ⟨0, by omega, rfl, hid (fun i e hi => absurd hi (Nat.not_lt_zero _)), rfl⟩
  case round =>
    obtain ⟨j, hj, rfl, hA, rfl⟩ := hrel
    by_cases hjl : j < L.length
    · obtain ⟨e, he⟩ : ∃ e, L[j]? = some e := ⟨L[j], List.getElem?_eq_getElem hjl⟩
      obtain ⟨g, cp, hg, hgl, c2⟩ := row_text H.out he
      injection hg with hg1 hg2 hg3
      subst hg1 hg3
      by_cases hes : e = s
      · have HV := hid (show findT L s = j + 1 ∧ (atT L s).isSome = true by unfold findT; rw [atT_first hA.out (by rw [he, hes])]; exact ⟨rfl, rfl⟩)
        rw [hes] at c2
        clear hes he
        go_wp2_with fail
        go_ret2
        refine ⟨?_, rfl⟩
        rw [HV.out.1, HV.out.2]
        simp
      · have hnb := text_ne hes
        have HA := hid (show ∀ i x, i < j + 1 → L[i]? = some x → x ≠ s from fun i e' hi he' => by
          rcases Nat.lt_or_ge i j with h1 | h1
          · exact hA.out i e' h1 he'
          · have : i = j := by omega
            subst this
            rw [he] at he'
            cases he'
            exact hes)
        clear hes hA
        go_wp2_with fail
        exact ⟨⟨j + 1, by omega, by simp, HA, trivial⟩, by simp [intOf]; omega⟩
    · have hje : j = L.length := by omega
      subst hje
      have HV := hid (show findT L s = 0 ∧ (atT L s).isSome = false by
        unfold findT
        rw [atT_none (fun e he => by
          obtain ⟨i, hi⟩ := List.getElem?_of_mem he
          exact hA.out i e (List.getElem?_eq_some_iff.1 hi).1 hi)]
        exact ⟨rfl, rfl⟩)
      go_wp2_with fail
      go_ret2
      refine ⟨?_, rfl⟩
      rw [HV.out.1, HV.out.2]
      rfl
theorem rtext_some {S : Nat → Prop} {r i : Nat} {L : List ByteArray} {s : ByteArray} (w : World) (h : RtS S r L w) (hi : L[i]? = some s) (hl : L.length ≤ 1000000) :
    Calls Try.prog 16 #[.pointer (some ⟨r, 0, none⟩), .int .i64 ((i : Int) + 1)] w fun e w' => e = .returned (.tuple #[.string s, .bool true]) ∧ w' = w := by
  have hil : i < L.length := (List.getElem?_eq_some_iff.1 hi).1
  obtain ⟨v, h1, h2, _, _⟩ := h
  obtain ⟨g, cap, rfl, hg, c3⟩ := row_text h2 hi
  have c0 : w.cell? ⟨r, 0, none⟩ = some (.slice (some ⟨g, 0, none⟩) L.length cap) := by rw [blk_cell h1]; rfl
  have d1 : decide ((i : Int) + 1 < 1) = false := decide_eq_false (by omega)
  have d2 : decide ((L.length : Int) < (i : Int) + 1) = false := decide_eq_false (by omega)
  clear h1 h2 hi
  go_enter Try.func16, Try.ntmps16
  go_wp2_with fail
  go_ret2
  exact ⟨rfl, rfl⟩
theorem rtext_none {S : Nat → Prop} {r : Nat} {L : List ByteArray} (w : World) (h : RtS S r L w) (i : Int) (hi : ¬ (1 ≤ i ∧ i ≤ L.length)) :
    Calls Try.prog 16 #[.pointer (some ⟨r, 0, none⟩), .int .i64 i] w fun e w' => e = .returned (.tuple #[.string ⟨#[]⟩, .bool false]) ∧ w' = w := by
  obtain ⟨v, h1, h2, _, _⟩ := h
  obtain ⟨ao, cap, rfl⟩ := row_shape h2
  have c0 : w.cell? ⟨r, 0, none⟩ = some (.slice ao L.length cap) := by rw [blk_cell h1]; rfl
  clear h1 h2
  by_cases h0 : i < 1
  · clear hi
    go_enter Try.func16, Try.ntmps16
    go_wp2_with fail
    go_ret2
    exact ⟨rfl, rfl⟩
  · have d1 : decide (i < 1) = false := decide_eq_false h0
    have d2 : decide ((L.length : Int) < i) = true := decide_eq_true (by omega)
    clear hi h0
    go_enter Try.func16, Try.ntmps16
    go_wp2_with fail
    go_ret2
    exact ⟨rfl, rfl⟩

set_option maxHeartbeats 1000000 in
theorem rof_new {S : Nat → Prop} {r : Nat} {L : List ByteArray} (w : World) (h : RtS S r L w) (s : ByteArray) (hi : atT L s = none) (hl : L.length ≤ 1000000) :
    Calls Try.prog 11 #[.pointer (some ⟨r, 0, none⟩), .string s] w fun e w' => e = .returned (.int .i64 ((L.length + 1 : Nat) : Int)) ∧ RtS (Up S w) r (L ++ [s]) w' ∧ Keep S w w' := by
  have HF := hid (rfind_calls w h s hl)
  rw [show findT L s = 0 from by unfold findT; rw [hi], show (atT L s).isSome = false from by rw [hi]; rfl] at HF
  obtain ⟨v, h1, h2, h3, h4⟩ := h
  obtain ⟨ao, cap, rfl⟩ := row_shape h2
  have c0 : w.cell? ⟨r, 0, none⟩ = some (.slice ao L.length cap) := by rw [blk_cell h1]; rfl
  have hr := blk_lt h1
  have HB := hid h1
  have RW := hid h2
  have hne : (Value.slice ao L.length cap).ownBlock ≠ some r := fun e => by
    obtain ⟨cur, hc⟩ := row_lt h2 e
    have hd : w.heap[r]? = _ := h1
    have hb : w.heap[r]? = _ := hc
    rw [hd] at hb
    injection hb with hb; injection hb with _ hb
    exact absurd hb (by decide)
  have HN := hid hne
  have H4 := hid h4
  clear h1 h2 hi hne h4
  go_enter Try.func11, Try.ntmps11
  go_wp2_with fail
  refine HF.out.mono ?_
  rintro e1 w1 ⟨rfl, rfl⟩
  go_wp2_with (first | (at_builtin; refine row_app elTx (by decide) (by decide) rfl _ _ rfl L.length (L.map Value.string) [.string s] rfl (by intro u hu; simp at hu; subst hu; rfl) (.slice ao L.length cap) (by rfl) RW.out w1.heap.size (by rfl) rfl hl ?_; intro g cp w3 hown hgrow hat; have q0 : w3.cell? ⟨r, 0, none⟩ = some (.slice ao L.length cap) := (hgrow.cell_far ⟨r, 0, none⟩ hr (fun e => HN.out e.symm)).trans c0; have q1 : w3.frozen? ⟨r, 0, none⟩ = false := (hgrow.frozen_far ⟨r, 0, none⟩ hr (fun e => HN.out e.symm)).trans (blk_free HB.out 0); have HO := hid hown; have HG := hid hgrow; have HT := hid hat; clear hown hgrow hat) | fail)
  go_ret
  have k3 : Keep S w1 w3 := Keep.grown HG.out (fun k hk => H4.out k hk)
  have b3 : Blk r 29 #[.slice ao L.length cap] w3 := (HG.out.block r hr (fun e => HN.out e.symm)).trans HB.out
  have K3 := Keep.set (S := fun b => b = r) rfl w3 0 (.slice (some ⟨g, 0, none⟩) (L.length + 1) cp)
  have hgr : g ≠ r := fun e => by
    rcases HT.out with h | h
    · exact HN.out (e ▸ h)
    · omega
  refine ⟨rfl, ⟨_, blk_set b3 0 _, ?_, .inl h3, fun k hk => ?_⟩, k3.trans K3 (fun b _ e => by rw [e]; exact h3)⟩
  · rw [List.length_append, List.map_append]
    exact row_keep HO.out (fun k hk => by
      simp [Value.ownBlock] at hk
      subst hk
      obtain ⟨cur, hc⟩ := row_lt HO.out (g := g) rfl
      exact K3.block g (blk_lt hc) hgr)
  · simp [Value.ownBlock] at hk
    subst hk
    rcases HT.out with h | h
    · exact .inl (H4.out g h)
    · exact .inr h
theorem rof_calls {S : Nat → Prop} {r : Nat} {L : List ByteArray} (w : World) (h : RtS S r L w) (s : ByteArray) (hl : L.length ≤ 1000000) :
    Calls Try.prog 11 #[.pointer (some ⟨r, 0, none⟩), .string s] w fun e w' => e = .returned (.int .i64 (numT L s : Int)) ∧ RtS (Up S w) r (ofT L s) w' ∧ Keep S w w' := by
  cases hi : atT L s with
  | some i =>
    have HF := hid (rfind_calls w h s hl)
    rw [show findT L s = i + 1 from by unfold findT; rw [hi], show (atT L s).isSome = true from by rw [hi]; rfl] at HF
    rw [show numT L s = i + 1 from by unfold numT; rw [hi], show ofT L s = L from by unfold ofT; rw [hi]; rfl]
    have R := hid (show RtS (Up S w) r L w from h.mono (fun b _ hb => .inl hb))
    clear h hi
    go_enter Try.func11, Try.ntmps11
    go_wp2_with fail
    refine HF.out.mono ?_
    rintro e1 w1 ⟨rfl, rfl⟩
    go_wp2_with fail
    go_ret
    exact ⟨rfl, R.out, Keep.refl _ _⟩
  | none =>
    rw [show numT L s = L.length + 1 from by unfold numT; rw [hi], show ofT L s = L ++ [s] from by unfold ofT; rw [hi]; rfl]
    exact rof_new w h s hi hl

end Go.Proofs.Ytblejdoceppfjaa
