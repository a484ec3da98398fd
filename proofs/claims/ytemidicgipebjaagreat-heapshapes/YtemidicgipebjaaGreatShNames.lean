/- A shape's names, in a row of one's own. -/
import Derived.Test.YtemidicgipebjaaGreatJoint2
import Derived.Test.YtemidicgipebjaaGreatShRev
import Derived.Maps.AppendAt
namespace Go.Proofs.YtemidicgipebjaaGreat
set_option linter.unusedSimpArgs false
open Go.RowKit Go.Shelf

theorem row_base {b b' : Nat} {T : TypeId} {z n : Nat} {v : Value} {xs : List Value} {w : World} (h : w.ownsRow b T z v n xs) (hb : b' ≤ b) : w.ownsRow b' T z v n xs := by
  refine ⟨h.1, ?_⟩
  rcases h.2 with h1 | ⟨g, cap, cur, h1, h2, h3⟩
  · exact .inl h1
  · exact .inr ⟨g, cap, cur, h1, Nat.le_trans hb h2, h3⟩
theorem row_new {b : Nat} {T : TypeId} {z n g : Nat} {v : Value} {xs : List Value} {w : World} (h : w.ownsRow b T z v n xs) (hg : v.ownBlock = some g) : b ≤ g ∧ g < w.heap.size := by
  obtain ⟨cur, hc⟩ := row_lt (row_base h (Nat.zero_le _)) hg
  rcases h.2 with ⟨h1, _⟩ | ⟨g', cap, cur, h1, h2, h3⟩
  · rw [h1] at hg; simp [Value.ownBlock] at hg
  · rw [h1] at hg
    simp [Value.ownBlock] at hg
    subst hg
    exact ⟨h2, blk_lt hc⟩
theorem row_lift {b : Nat} {T : TypeId} {z n : Nat} {v : Value} {xs : List Value} {w : World} (h : w.ownsRow 0 T z v n xs) (hb : ∀ g, v.ownBlock = some g → b ≤ g) : w.ownsRow b T z v n xs := by
  refine ⟨h.1, ?_⟩
  rcases h.2 with h1 | ⟨g, cap, cur, h1, h2, h3⟩
  · exact .inl h1
  · exact .inr ⟨g, cap, cur, h1, hb g (by rw [h1]; rfl), h3⟩
theorem box_app {W w1 : World} {base B : Nat} {t e : TypeId} {size : Nat} {v v' : Value} {k m : Nat} {xs ys : List Value} {tmp : Obj} {X : Nat → Prop}
    (hv : Boxed W B t v) (hte : t ≠ e) (hrow : W.ownsRow base e size v k xs) (hown' : w1.ownsRow base e size v' m ys) (hgrow : (W.alloc tmp).grownBy w1 v.ownBlock) (hXB : X B) (hX : ∀ b, base ≤ b → X b) :
    Boxed w1 B t v ∧ Boxed (w1.setCell ⟨B, 0, none⟩ v') B t v' ∧ (w1.setCell ⟨B, 0, none⟩ v').ownsRow base e size v' m ys ∧ KeepsOthers W (w1.setCell ⟨B, 0, none⟩ v') ∧ Keep X W (w1.setCell ⟨B, 0, none⟩ v') := by
  have hv1 : Boxed w1 B t v := (hv.alloc tmp).kept hgrow (hv.not_row hte hrow)
  refine ⟨hv1, hv1.set v', hown'.kept (grownBy_setCell' w1 B v') (.inr (hv1.not_row hte hown').symm), ?_, ?_⟩
  · refine ((KeepsOthers.alloc W tmp).trans (KeepsOthers.of_grownBy hgrow fun j o ej hj => ?_)).trans (KeepsOthers.setCell _ _ _)
    rcases (hrow.alloc tmp).2 with ⟨rfl, _⟩ | ⟨g, cap, cur, rfl, _, hgb, _⟩
    · simp [Value.ownBlock] at ej
    · obtain rfl : g = j := by simpa [Value.ownBlock] using ej
      rw [hgb] at hj; cases hj; rfl
  · refine ((Keep.alloc X W tmp).trans (Keep.grown hgrow fun j ej => ?_) (fun _ _ e => e)).trans (Keep.set hXB w1 0 v') (fun _ _ e => e)
    exact hX j (row_new hrow ej).1

theorem infoIn : ∃ i0, Tryz.prog.info? 3 = some i0 ∧ i0.zero = some (.int .i64 0) ∧ i0.size = 1 ∧ i0.bytes = 8 :=
  info_parts (show (Tryz.prog.info? 3).map (fun i => (i.zero, i.size, i.bytes)) = some (some (.int .i64 0), 1, 8) by kernel_rfl)
theorem underIs : Tryz.prog.underlying 125 = some (.slice 3) := by kernel_rfl
set_option maxRecDepth 100000 in
set_option maxHeartbeats 1000000 in
theorem snames_calls {M : Nat} {L : List Sh} {t m i : Nat} {v : Value} {g : Nat → Nat} {nm : Nat → Option Nat} {s : Sh} (w : World) (h : TrAt M L t m v g nm w) (hi : L[i]? = some s) :
    Calls Tryz.prog 120 #[.pointer (some ⟨t, 0, none⟩), .int .i64 ((i + 1 : Nat) : Int)] w fun e w' => ∃ v, e = .returned v ∧ w'.ownsRow w.heap.size 3 1 v s.2.length (s.2.map (Value.int .i64)) ∧ Below w.heap.size w w' := by
  have H := hid h
  have HI := hid hi
  have hlt := hid (fun b hb => h.lt (b := b) hb)
  obtain ⟨ii, hii, hz0, hz1, hz2⟩ := infoIn
  clear h hi
  generalize hid0 : ((i + 1 : Nat) : Int) = id
  have HE := hid hid0
  clear hid0
  refine (callsIn_wide (n := 6)).1 ?_
  refine callsIn_of_wp_marks Tryz.func120 rfl trivial ?_ rfl
  simp only [Tryz.ntmps120, List.size_toArray, List.length_cons, List.length_nil, Nat.reduceAdd, Nat.reduceSub, Array.replicate_succ, Array.replicate_zero, List.push_toArray, List.append_toArray, List.nil_append, List.cons_append]
  gi_wp2
  refine ⟨trivial, ?_⟩
  refine (callsIn_wide.2 (up_calls _ _ _)).mono ?_
  rintro e w' ⟨rfl, rfl⟩
  gi_wp2
  have bO := Boxed.new w 125 (.slice none 0 0)
  have bT := Boxed.new (w.alloc (.cells #[.slice none 0 0] 125)) 144 (.pointer (some ⟨t, 0, none⟩))
  have bI := Boxed.new ((w.alloc (.cells #[.slice none 0 0] 125)).alloc (.cells #[.pointer (some ⟨t, 0, none⟩)] 144)) 3 (.int .i64 id)
  simp only [World.size_alloc] at bT bI
  have hB0 : Below w.heap.size w (((w.alloc (.cells #[.slice none 0 0] 125)).alloc (.cells #[.pointer (some ⟨t, 0, none⟩)] 144)).alloc (.cells #[.int .i64 id] 3)) := (((Below.refl _ w).alloc (Nat.le_refl _) _).alloc (by simp) _).alloc (by simp; omega) _
  have hsz0 : (((w.alloc (.cells #[.slice none 0 0] 125)).alloc (.cells #[.pointer (some ⟨t, 0, none⟩)] 144)).alloc (.cells #[.int .i64 id] 3)).heap.size = w.heap.size + 1 + 1 + 1 := by simp
  refine wpIn_rangeFunc_ownG rfl (by omega) (gf := 141) (lb := #[.pointer (some ⟨w.heap.size + 1 + 1, 0, none⟩), .pointer (some ⟨w.heap.size + 1, 0, none⟩)]) rfl trivial (enters_of Tryz.func141 (by kernel_rfl) rfl)
    (up_stops 5 (w.heap.size + 1 + 1) (w.heap.size + 1) (fun b => b = w.heap.size ∨ w.heap.size + 1 + 1 + 1 ≤ b) HI.out _ (fun b hb => by have := hlt.out b hb; omega) (by omega) (by rw [HE.out]; exact bI) (bT.alloc _) (H.out.on hB0))
    keepX_t (keepX_b (fun b hb => .inr (by simpa using hb))) (Below.refl _ _) (fun _ => rfl)
    (fun pre W => (∃ v, Boxed W w.heap.size 125 v ∧ W.ownsRow (w.heap.size + 1 + 1 + 1) 3 1 v pre.length (pre.map (fun y => Value.int .i64 y.1.2)) ∧ True) ∧ (Below w.heap.size w W ∧ w.heap.size + 1 + 1 + 1 ≤ W.heap.size))
    (fun _ _ _ => False)
    (OwnFrom.and (Own.from (holdsRow_own (w.heap.size + 1 + 1 + 1) w.heap.size 125 3 1 (fun pre : List (Tld L s) => pre.length) (fun pre => pre.map (fun y => Value.int .i64 y.1.2)) (fun _ _ => True)) _) (OwnFrom.and (ownFrom_below (Nat.le_refl _) (by simp; omega)) (fun _ _ _ _ hs hg _ => Nat.le_trans hs hg.size)))
    (fun _ _ _ _ _ hs _ _ => hs)
    ⟨⟨_, (bO.alloc _).alloc _, World.ownsRow_nil _ _ _ _, trivial⟩, hB0, by rw [hsz0]; exact Nat.le_refl _⟩
    (fun y => { tmps := #[.pointer (some ⟨t, 0, none⟩), .int .i64 id, undef, undef, .slice none 0 0, .pointer (some ⟨w.heap.size, 0, none⟩), undef, .int .i64 y.1.2, .pointer (some ⟨t, 0, none⟩), .int .i64 id, .func (.func 141) #[] #[.pointer (some ⟨w.heap.size + 1 + 1, 0, none⟩), .pointer (some ⟨w.heap.size + 1, 0, none⟩)], .int .i64 y.1.1, .int .i64 y.1.2, undef, undef, undef, undef, undef, undef, undef], defers := [] }) ?assign ?body ?done ?stop
  case assign =>
    intro l x W K hK
    simp only [encU]
    gi_wp2_with (rw [Oper.semAt_eq _ _ _ (fun c h => by cases h)]; go_simp; try go_bits)
    exact hK
  case body =>
    rintro l pre y W ⟨⟨v0, hv, hrow, _⟩, hB, hsz⟩ hlen
    have hc := hv.cell
    have hl := H.out.wf.few _ _ HI.out
    rw [upS_length] at hlen
    gi_wp2_with (first | (gi_at_builtin; refine wpListIn_append_own _ rfl _ _ 125 rfl (w.heap.size + 1 + 1 + 1) 3 ii (.int .i64 0) 1 8 underIs hii hz0 hz1 hz2 rfl (by decide) _ _ _ rfl (hrow.alloc _) ⟨W.heap.size, 0, none⟩ 1 1 [.int .i64 y.1.2] rfl rfl (cell_one_new _ _ _) (by simp [Value.oneCell']) (by unfold maxLen; omega) (by omega) (by simp; omega) ?_; intro v' w1 hown' hgrow _; obtain ⟨g', cap', rfl⟩ := ownsRow_succ hown'; obtain ⟨hv1, hv2, hr2, hk2, hb2⟩ := box_app (X := fun b => b = w.heap.size ∨ w.heap.size + 1 + 1 + 1 ≤ b) hv (by decide) hrow hown' hgrow (.inl rfl) (fun b hb => .inr hb); have hc1 := hv1.cell; have hf1 := hv1.frozen) | (rw [Oper.semAt_eq _ _ _ (fun c h => by cases h)]; go_simp; try go_bits))
    refine ⟨hk2.from _, hb2, ⟨_, hv2, by simpa using hr2, trivial⟩, ?_, ?_⟩
    · exact hB.trans (hb2.below hB.size (fun k hk => by omega))
    · exact Nat.le_trans hsz hb2.size
  case done =>
    rintro D ys W hD rfl ⟨⟨v0, hv, hrow, _⟩, hB, hsz⟩ hK
    have hc := hv.cell
    have e1 : (upS L s).attach.map (fun y => Value.int .i64 y.1.2) = s.2.reverse.map (Value.int .i64) := by
      rw [← upS_names L s, List.map_map]
      conv => rhs; rw [← List.attach_map_subtype_val (upS L s), List.map_map]
      rfl
    have e2 : (upS L s).attach.length = s.2.reverse.length := by simp [upS_length]
    rw [e1, e2] at hrow
    have HR0 := rev_calls W (row_base hrow (Nat.zero_le _)) (by have := H.out.wf.few _ _ HI.out; simp; omega)
    rw [List.length_reverse] at hrow
    simp only [List.length_reverse, List.reverse_reverse] at HR0
    have HR := hid HR0
    clear HR0
    have HG := hid (fun gg hg => (row_new (g := gg) hrow hg).1)
    have hnr := hv.not_row (e := 3) (by decide) hrow
    have hDr : v0.ownBlock ≠ some D := fun e => by
      obtain ⟨cur, hc'⟩ := row_lt (row_base hrow (Nat.zero_le _)) e
      unfold Blk at hc'
      rw [hK] at hc'
      cases hc'
    obtain ⟨ao, cap, rfl⟩ := row_shape (row_base hrow (Nat.zero_le _))
    clear hrow e1 e2
    gi_wp2
    refine ⟨trivial, ?_⟩
    refine (callsIn_wide.2 HR.out).mono ?_
    rintro e3 w3 ⟨⟨u3, rfl⟩, r3, k3⟩
    have hv3 : Boxed w3 w.heap.size 125 (.slice ao s.2.length cap) := (k3.block _ hv.lt (fun e => hnr e.symm)).trans hv
    have hK3 : w3.heap[D]? = some (.deferred (some [])) := (k3.block D (Array.getElem?_eq_some_iff.1 hK).1 hDr).trans hK
    have hc3 := hv3.cell
    have hB3 : Below w.heap.size w w3 := hB.trans (k3.below hB.size (fun k hk => by have := HG.out k hk; omega))
    have R3 := hid r3
    clear r3 k3 HR
    gi_wp2
    refine ⟨by simp, .inl ⟨_, _, rfl, run_takeDeferred hK3, ?_⟩⟩
    refine ⟨_, results_tmp rfl _ _ _, _, rfl, ?_, hB3.trans (belowK_b (w := w) (Nat.le_refl _) w3 D _ _ (by simp at hD; omega) hK3 rfl rfl)⟩
    exact ownsRow_putObj (row_lift R3.out (fun gg hg => by have := HG.out gg hg; omega)) _ hK3 rfl
  case stop =>
    rintro D c pre W _ _ h _
    exact h.elim

end Go.Proofs.YtemidicgipebjaaGreat
