/- One instruction more; one that goes to a place that is filled in behind. An instruction that goes to a place which is filled in behind. -/
import Derived.Test.YtgdbaceehpcgbaaDoorJoint10
import Derived.Test.YtgdbaceehpcgbaaDoorJoint11
import Derived.Test.YtgdbaceehpcgbaaDoorCpLay
import Derived.Test.YtgdbaceehpcgbaaDoorJoint6
namespace Go.Proofs.YtgdbaceehpcgbaaDoor
set_option linter.unusedSimpArgs false
open Go.RowKit

theorem pl_setO {S : Nat → Prop} {p g i : Nat} {L : List ByteArray} {T : TypeId} {cs : Array Value} {v : Value} {w : World} (h : PlS S p L w) (hg : Blk g T cs w) (h1 : T ≠ 59) (h2 : T ≠ 9) : PlS S p L (w.setCell ⟨g, i, none⟩ v) := by
  obtain ⟨m, tv, h3, h4⟩ := h
  have hf := h3.far hg h1 h2
  exact ⟨m, tv, h3.keep fun b hb => Below.heap_setCell _ _ _ _ (fun e => hf (by subst e; exact hb)), h4⟩
theorem pl_grow {S : Nat → Prop} {p : Nat} {L : List ByteArray} {n : Nat} {v : Value} {xs : List Value} {w w' : World} (h : PlS S p L w) (hr : w.ownsRow 0 51 3 v n xs) (hg : w.grownBy w' v.ownBlock) : PlS S p L w' := by
  obtain ⟨m, tv, h3, h4⟩ := h
  refine ⟨m, tv, h3.keep fun b hb => hg.block b (h3.lt hb) (fun e => ?_), h4⟩
  obtain ⟨cur, hc⟩ := row_lt hr e.symm
  exact h3.far hc (by decide) (by decide) hb
/-- an instruction more -/
theorem ly_put {S T : Nat → Prop} {l p g cap : Nat} {v : Value} {I : List In} {L : List ByteArray} {c : Int} {x : In} {u w3 : World} (h : LyA S l p v I L c u) (hST : ∀ b, S b → T b) (hT : ∀ b, u.heap.size ≤ b → T b)
    (hown : w3.ownsRow 0 51 3 (.slice (some ⟨g, 0, none⟩) (I.length + 1) cap) (I.length + 1) (insC I ++ inC x)) (hgrow : u.grownBy w3 v.ownBlock) (hat : v.ownBlock = some g ∨ u.heap.size ≤ g) :
    LyA T l p (.slice (some ⟨g, 0, none⟩) (I.length + 1) cap) (I ++ [x]) L c (w3.setCell ⟨l, 1, none⟩ (.slice (some ⟨g, 0, none⟩) (I.length + 1) cap)) ∧ Keep S u (w3.setCell ⟨l, 1, none⟩ (.slice (some ⟨g, 0, none⟩) (I.length + 1) cap)) ∧
      Blk l 80 #[.pointer (some ⟨p, 0, none⟩), v, .int .i64 c] w3 := by
  have hl := blk_lt h.blk
  have b3 : Blk l 80 #[.pointer (some ⟨p, 0, none⟩), v, .int .i64 c] w3 := (hgrow.block l hl (fun e => h.ne l e.symm rfl)).trans h.blk
  have hgl : g ≠ l := by
    rcases hat with h1 | h1
    · exact h.ne g h1
    · omega
  refine ⟨⟨?_, ?_, ?_, hST _ h.inl, fun b hb => ?_⟩, ?_, b3⟩
  · exact pl_setO ((pl_grow h.pl h.row hgrow).mono (fun b _ hb => hST b hb)) b3 (by decide) (by decide)
  · have := blk_set b3 1 (.slice (some ⟨g, 0, none⟩) (I.length + 1) cap)
    simpa using this
  · have e : insC (I ++ [x]) = insC I ++ inC x := by rw [insC_app]; rfl
    rw [e, List.length_append]
    refine row_keep hown fun k hk => ?_
    simp [Value.ownBlock] at hk
    subst hk
    exact Below.heap_setCell _ _ _ _ hgl
  · simp [Value.ownBlock] at hb
    subst hb
    rcases hat with h1 | h1
    · exact hST _ (h.inv _ h1)
    · exact hT _ h1
  · exact (Keep.grown hgrow (fun k hk => h.inv k hk)).trans (Keep.set (S := fun b => b = l) rfl w3 1 _) (fun b _ e => by subst e; exact h.inl)
theorem ly_site {S : Nat → Prop} {l p : Nat} {v : Value} {I : List In} {L : List ByteArray} {c : Int} {w : World} (h : LyA S l p v I L c w) (d : Int) :
    LyA S l p v I L d (w.setCell ⟨l, 2, none⟩ (.int .i64 d)) ∧ Keep S w (w.setCell ⟨l, 2, none⟩ (.int .i64 d)) := by
  refine ⟨⟨pl_setO h.pl h.blk (by decide) (by decide), ?_, row_keep h.row fun b hb => Below.heap_setCell _ _ _ _ (h.ne b hb), h.inl, h.inv⟩, Keep.set h.inl w 2 _⟩
  have := blk_set h.blk 2 (.int .i64 d)
  simpa using this
set_option maxRecDepth 100000 in
theorem lay_calls {S : Nat → Prop} {l p : Nat} {I : List In} {c : Cs} (w : World) (h : LyS S l p I c w) (hl : I.length ≤ 1000000) (op a : Int) :
    Calls Tryd.prog 32 #[.pointer (some ⟨l, 0, none⟩), .int .i64 op, .int .i64 a] w fun e w' => e = .returned (.tuple #[]) ∧ Gone S l p (I ++ [(op, a, 0)]) c w w' := by
  obtain ⟨v, h⟩ := h
  obtain ⟨ao, cap, rfl⟩ := row_shape h.row
  have c1 : w.cell? ⟨l, 1, none⟩ = some (.slice ao I.length cap) := by rw [blk_cell h.blk]; rfl
  have H := hid h
  have HR := hid h.row
  clear h
  go_enter Tryd.func32, Tryd.ntmps32
  go_wp2_with (first | (at_builtin; go_loud (refine row_app elInstr (by decide) (by decide) rfl _ _ rfl I.length (insC I) [.int .i64 op, .int .i64 a, .int .i64 0] rfl (by intro u hu; simp at hu; rcases hu with rfl | rfl | rfl <;> rfl) (.slice ao I.length cap) (by rfl) HR.out w.heap.size (by rfl) rfl (by omega) ?_; intro g cp w3 hown hgrow hat; have W := hid (ly_put (T := Up S w) (x := (op, a, 0)) H.out (fun b hb => .inl hb) (fun b hb => .inr hb) hown hgrow hat); have f3 := blk_free W.out.2.2 1; have e3 : w3.cell? ⟨l, 1, none⟩ = some (.slice ao I.length cap) := blk_cellZ W.out.2.2 1 rfl; clear hown hgrow hat)) | fail)
  go_end0
  exact ⟨rfl, ⟨_, W.out.1⟩, W.out.2.1⟩

theorem blk_grow {g : Nat} {T : TypeId} {cs : Array Value} {n : Nat} {v : Value} {xs : List Value} {w w' : World} (h : Blk g T cs w) (hT : T ≠ 51) (hr : w.ownsRow 0 51 3 v n xs) (hg : w.grownBy w' v.ownBlock) : Blk g T cs w' :=
  (hg.block g (blk_lt h) (fun e => by
    obtain ⟨cur, hc⟩ := row_lt hr e.symm
    exact blk_apart h hc hT rfl)).trans h
/-- behind a string's number -/
theorem ly_num {S : Nat → Prop} {l p : Nat} {v : Value} {I : List In} {L L' : List ByteArray} {c : Int} {F : Nat → Prop} {w u : World} (h : LyA S l p v I L c w) (_ : PlS F p L w) (hFS : ∀ b, F b → S b) (hFl : ¬ F l) (hFv : ∀ b, v.ownBlock = some b → ¬ F b)
    (hP : PlS (Up F w) p L' u) (hK : Keep F w u) : LyA (Up S w) l p v I L' c u ∧ Keep S w u :=
  ⟨⟨hP.mono (fun b _ hb => hb.imp (hFS b) id), blk_keep h.blk hK hFl, row_keep h.row (fun b hb => by
    obtain ⟨cur, hc⟩ := row_lt h.row hb
    exact hK.block b (blk_lt hc) (hFv b hb)), .inl h.inl, fun b hb => .inl (h.inv b hb)⟩, hK.mono (fun b _ hb => hFS b hb)⟩
theorem ly_tight {S : Nat → Prop} {l p : Nat} {v : Value} {I : List In} {L : List ByteArray} {c : Int} {w : World} (h : LyA S l p v I L c w) : ∃ F : Nat → Prop, PlS F p L w ∧ (∀ b, F b → S b) ∧ ¬ F l ∧ (∀ b, v.ownBlock = some b → ¬ F b) ∧ ∀ b, F b → b < w.heap.size := by
  obtain ⟨m, tv, h3, h4⟩ := h.pl
  refine ⟨FtP p m tv, ⟨m, tv, h3, fun b hb => hb⟩, h4, h3.far h.blk (by decide) (by decide), fun b hb => ?_, fun b hb => h3.lt hb⟩
  obtain ⟨cur, hc⟩ := row_lt h.row hb
  exact h3.far hc (by decide) (by decide)
set_option maxRecDepth 100000 in
set_option maxHeartbeats 3200000 in
theorem laySite_calls {S : Nat → Prop} {l p : Nat} {I : List In} {c : Cs} (w : World) (h : LyS S l p I c w) (hl : I.length ≤ 1000000) (hL : c.1.length ≤ 1000000) (hc0 : 0 ≤ c.2) (hc1 : c.2 ≤ 1000000) (op : Int) (s : ByteArray) (hs : s.size ≤ maxLen) :
    Calls Tryd.prog 85 #[.pointer (some ⟨l, 0, none⟩), .int .i64 op, .string s] w fun e w' => e = .returned (.tuple #[]) ∧ Gone S l p (I ++ [(siteC op s c).1]) (siteC op s c).2 w w' := by
  obtain ⟨L, c⟩ := c
  obtain ⟨v, h⟩ := h
  simp only at h hL hc0 hc1
  simp only [siteC]
  obtain ⟨ao, cap, rfl⟩ := row_shape h.row
  obtain ⟨F, hF, hFS, hFl, hFv, _⟩ := ly_tight h
  have D := (Below.refl w.heap.size w).drew
  have H := hid (h.on D)
  have HF := hid (hF.on D)
  have HFS := hid hFS
  have HFv := hid hFv
  have hlw := blk_lt h.blk
  have d0 : w.cell? ⟨l, 0, none⟩ = some (.pointer (some ⟨p, 0, none⟩)) := blk_cellZ h.blk 0 rfl
  have d2 : w.cell? ⟨l, 2, none⟩ = some (.int .i64 c) := blk_cellZ h.blk 2 rfl
  have d1 : w.drew.cell? ⟨l, 1, none⟩ = some (.slice ao I.length cap) := blk_cellZ H.out.blk 1 rfl
  have HFl := hid hFl
  clear h hF hFS hFv hFl D
  go_enter Tryd.func85, Tryd.ntmps85
  go_wp2_with fail
  refine wp_region_held_drew (S := fun aZ => aZ.cell? ⟨l, 0, none⟩ = some (.pointer (some ⟨p, 0, none⟩)) ∧ aZ.cell? ⟨l, 2, none⟩ = some (.int .i64 c)) (by kernel_rfl) ?_ (fun hHeld => ?_)
  · (refine ⟨?_, ?_⟩ <;> go_simp)
  refine tkk 0 ?_
  refine tkk 1 ?_
  refine tkk 2 ?_
  refine tkk 3 ?_
  refine tkk 5 ?_
  refine tkk 6 ?_
  refine tkk 7 ?_
  refine tkk 8 ?_
  refine tkk 9 ?_
  refine tkk 10 ?_
  refine tkk 12 ?_
  refine tkk 13 ?_
  refine tkk 14 ?_
  refine tkk 15 ?_
  refine wpAnyH_ready (rs := [4, 11]) (by kernel_rfl) (by simp) ?_
  refine AllReadyH.cons rfl (fun K hK => ?_) (AllReadyH.cons rfl (fun K hK => ?_) AllReadyH.nil)
  go_simp
  refine hK.out _ _ ?_ (fun _ => ?_)
  · (refine ⟨?_, ?_⟩ <;> (first | assumption | go_simp))
  clear hK K
  refine rdy 11 (fun K hK => ?_)
  go_simp
  refine (number_calls _ HF.out s hs hL).mono ?_
  rintro e1 w1 ⟨rfl, P1, K1⟩
  have A1 := hid (ly_num H.out HF.out HFS.out HFl.out HFv.out P1 K1)
  clear P1 K1
  have e0 : w1.cell? ⟨l, 0, none⟩ = some (.pointer (some ⟨p, 0, none⟩)) := blk_cellZ A1.out.1.blk 0 rfl
  have e2 : w1.cell? ⟨l, 2, none⟩ = some (.int .i64 c) := blk_cellZ A1.out.1.blk 2 rfl
  have e1' : w1.cell? ⟨l, 1, none⟩ = some (.slice ao I.length cap) := blk_cellZ A1.out.1.blk 1 rfl
  have hl1 : l < w1.heap.size := blk_lt A1.out.1.blk
  go_simp
  refine hK.out _ _ ?_ (fun _ => ?_)
  · (refine ⟨?_, ?_⟩ <;> (first | assumption | go_simp))
  clear hK K
  refine tkk 16 ?_
  refine rdy 17 (fun K hK => ?_)
  go_simp
  refine hK.out _ _ ?_ (fun _ => ?_)
  · (refine ⟨?_, ?_⟩ <;> (first | assumption | go_simp))
  clear hK K
  rotate_left 1
  go_simp
  refine (number_calls _ HF.out s hs hL).mono ?_
  rintro e1 w1 ⟨rfl, P1, K1⟩
  have A1 := hid (ly_num H.out HF.out HFS.out HFl.out HFv.out P1 K1)
  clear P1 K1
  have e0 : w1.cell? ⟨l, 0, none⟩ = some (.pointer (some ⟨p, 0, none⟩)) := blk_cellZ A1.out.1.blk 0 rfl
  have e2 : w1.cell? ⟨l, 2, none⟩ = some (.int .i64 c) := blk_cellZ A1.out.1.blk 2 rfl
  have e1' : w1.cell? ⟨l, 1, none⟩ = some (.slice ao I.length cap) := blk_cellZ A1.out.1.blk 1 rfl
  have hl1 : l < w1.heap.size := blk_lt A1.out.1.blk
  go_simp
  refine hK.out _ _ ?_ (fun _ => ?_)
  · (refine ⟨?_, ?_⟩ <;> (first | assumption | go_simp))
  clear hK K
  refine tkk 16 ?_
  refine wpAnyH_ready (rs := [4, 17]) (by kernel_rfl) (by simp) ?_
  refine AllReadyH.cons rfl (fun K hK => ?_) (AllReadyH.cons rfl (fun K hK => ?_) AllReadyH.nil)
  go_simp
  refine hK.out _ _ ?_ (fun _ => ?_)
  · (refine ⟨?_, ?_⟩ <;> (first | assumption | go_simp))
  clear hK K
  refine rdy 17 (fun K hK => ?_)
  go_simp
  refine hK.out _ _ ?_ (fun _ => ?_)
  · (refine ⟨?_, ?_⟩ <;> (first | assumption | go_simp))
  clear hK K
  rotate_left 1
  go_simp
  refine hK.out _ _ ?_ (fun _ => ?_)
  · (refine ⟨?_, ?_⟩ <;> (first | assumption | go_simp))
  clear hK K
  refine rdy 4 (fun K hK => ?_)
  go_simp
  refine hK.out _ _ ?_ (fun _ => ?_)
  · (refine ⟨?_, ?_⟩ <;> (first | assumption | go_simp))
  clear hK K
  rotate_left 1
  all_goals
    refine rdy 18 (fun K hK => ?_)
    refine row_app_step elInstr (by decide) (by decide) rfl _ _ rfl I.length (insC I) [.int .i64 op, .int .i64 (poolN L s), .int .i64 c] rfl (by intro u hu; simp at hu; rcases hu with rfl | rfl | rfl <;> rfl) (.slice ao I.length cap) rfl A1.out.1.row w1.heap.size (by rfl) rfl (by omega) (.inl rfl) ?_
    intro g cp w3 hown hgrow hat
    have W := hid (ly_put (T := Up S w) (x := (op, poolN L s, c)) A1.out.1 (fun b hb => hb) (fun b hb => .inr (Nat.le_trans A1.out.2.size hb)) hown hgrow hat)
    clear hown hgrow hat
    have q0 : w3.cell? ⟨l, 0, none⟩ = some (.pointer (some ⟨p, 0, none⟩)) := blk_cellZ W.out.2.2 0 rfl
    have q1 : w3.cell? ⟨l, 1, none⟩ = some (.slice ao I.length cap) := blk_cellZ W.out.2.2 1 rfl
    have q2 : w3.cell? ⟨l, 2, none⟩ = some (.int .i64 c) := blk_cellZ W.out.2.2 2 rfl
    have q3 : w3.frozen? ⟨l, 1, none⟩ = false := blk_free W.out.2.2 1
    refine hK.out _ _ ?_ (fun _ => ?_)
    · (refine ⟨?_, ?_⟩ <;> (first | assumption | go_simp))
    clear hK K
    refine tkk 19 ?_
    refine tkk 20 ?_
    refine rdy 21 (fun K hK => ?_)
    go_simp
    refine hK.out _ _ ?_ (fun _ => ?_)
    · (refine ⟨?_, ?_⟩ <;> (first | assumption | go_simp))
    clear hK K
    refine wpAnyH_done (by kernel_rfl) ?_ _
    have W2 := hid (ly_site W.out.1 (c + 1))
    have WK := hid ((A1.out.2.trans W.out.2.1 (T := Up S w) (fun b hb q => q.resolve_right (by simp at hb; omega))))
    have B4 := hid W.out.1.blk
    clear q0 q1 q2 q3 W hHeld
    generalize w3.setCell ⟨l, 1, none⟩ (.slice (some ⟨g, 0, none⟩) (I.length + 1) cp) = w4 at *
    have r2 : w4.cell? ⟨l, 2, none⟩ = some (.int .i64 c) := blk_cellZ B4.out 2 rfl
    have r3 := blk_free B4.out 2
    have wr : IntKind.i64.wrap (c + 1) = c + 1 := by rw [IntKind.wrap_i64]; omega
    go_wp2_with fail
    go_end0
    exact ⟨rfl, ⟨_, W2.out.1⟩, Keep.trans (Keep.trans (Keep.drew S w) WK.out (fun _ _ e => e)) W2.out.2 (fun b hb q => q.resolve_right (by omega))⟩
end Go.Proofs.YtgdbaceehpcgbaaDoor

namespace Go.Proofs.YtgdbaceehpcgbaaDoor
set_option linter.unusedSimpArgs false
open Go.RowKit

/-- the two variables of what fills in -/
def Hop (gl ga l i : Nat) (w : World) : Prop := Blk gl 78 #[.pointer (some ⟨l, 0, none⟩)] w ∧ Blk ga 3 #[.int .i64 (i : Int)] w
theorem Hop.keep {gl ga l i : Nat} {S : Nat → Prop} {a b : World} (h : Hop gl ga l i a) (k : Keep S a b) (h1 : ¬ S gl) (h2 : ¬ S ga) : Hop gl ga l i b := ⟨blk_keep h.1 k h1, blk_keep h.2 k h2⟩
set_option maxRecDepth 100000 in
theorem leap_calls {S : Nat → Prop} {l p : Nat} {I : List In} {c : Cs} (w : World) (h : LyS S l p I c w) (hl : I.length ≤ 1000000) (op : Int) :
    Calls Tryd.prog 86 #[.pointer (some ⟨l, 0, none⟩), .int .i64 op] w fun e w' => ∃ gl ga, e = .returned (.func (.func 97) #[] #[.pointer (some ⟨gl, 0, none⟩), .pointer (some ⟨ga, 0, none⟩)]) ∧ w.heap.size ≤ gl ∧ w.heap.size ≤ ga ∧ Hop gl ga l I.length w' ∧
      LyS (fun b => Up S w b ∧ b ≠ gl ∧ b ≠ ga) l p (I ++ [(op, 0, 0)]) c w' ∧ Keep S w w' := by
  have h0 := h.mono (T := fun b => S b ∧ b < w.heap.size) (fun b hb q => ⟨q, hb⟩)
  obtain ⟨v, h⟩ := h0
  obtain ⟨ao, cap, rfl⟩ := row_shape h.row
  have c1 : w.cell? ⟨l, 1, none⟩ = some (.slice ao I.length cap) := by rw [blk_cell h.blk]; rfl
  have hlw := blk_lt h.blk
  have A := (Below.refl w.heap.size w).alloc (Nat.le_refl _) (.cells #[.pointer (some ⟨l, 0, none⟩)] 78)
  have A2 := A.alloc (by simp) (.cells #[.int .i64 (I.length : Int)] 3)
  have B1 : Blk w.heap.size 78 #[.pointer (some ⟨l, 0, none⟩)] ((w.alloc (.cells #[.pointer (some ⟨l, 0, none⟩)] 78)).alloc (.cells #[.int .i64 (I.length : Int)] 3)) := blk_on (blk_new w _ _) ((Below.refl _ _).alloc (Nat.le_refl _) _)
  have B2 := blk_new (w.alloc (.cells #[.pointer (some ⟨l, 0, none⟩)] 78)) 3 #[.int .i64 (I.length : Int)]
  have hsz : ((w.alloc (.cells #[.pointer (some ⟨l, 0, none⟩)] 78)).alloc (.cells #[.int .i64 (I.length : Int)] 3)).heap.size = w.heap.size + 1 + 1 := by simp
  have hz1 : (w.alloc (.cells #[.pointer (some ⟨l, 0, none⟩)] 78)).heap.size = w.heap.size + 1 := by simp
  rw [hz1] at B2
  have H := hid (h.on A2)
  clear h A
  generalize hW : (w.alloc (.cells #[.pointer (some ⟨l, 0, none⟩)] 78)).alloc (.cells #[.int .i64 (I.length : Int)] 3) = w2 at *
  have r1 : w2.cell? ⟨w.heap.size, 0, none⟩ = some (.pointer (some ⟨l, 0, none⟩)) := blk_cellZ B1 0 rfl
  have HH := hid (show Hop w.heap.size (w.heap.size + 1) l I.length w2 from ⟨B1, B2⟩)
  have HA := hid A2
  have HZ := hid hsz
  clear B1 B2 A2 hsz hz1
  go_enter Tryd.func86, Tryd.ntmps86
  go_wp2_with fail
  refine (lay_calls w2 ⟨_, H.out⟩ hl op 0).mono ?_
  rintro e w3 ⟨rfl, G3⟩
  have G := hid G3
  clear G3
  go_wp2_with fail
  go_ret
  refine ⟨_, _, rfl, Nat.le_refl _, Nat.le_succ _, HH.out.keep G.out.2 (fun h => by have := h.2; omega) (fun h => by have := h.2; omega), G.out.1.mono (fun b hb q => ?_), (Keep.of HA.out).trans G.out.2 (fun b _ q => q.1)⟩
  have hz := HZ.out
  rcases q with ⟨h1, h2⟩ | h1
  · exact ⟨.inl h1, by omega, by omega⟩
  · exact ⟨.inr (by omega), by omega, by omega⟩
set_option maxRecDepth 100000 in
theorem hop_calls {S : Nat → Prop} {gl ga l p i : Nat} {I : List In} {c : Cs} (w : World) (h : LyS S l p I c w) (hH : Hop gl ga l i w) (hi : i < I.length) (hl : I.length ≤ 1000000) :
    Calls Tryd.prog 97 #[.pointer (some ⟨gl, 0, none⟩), .pointer (some ⟨ga, 0, none⟩)] w fun e w' => e = .returned (.tuple #[]) ∧ LyS S l p (putA I i (I.length : Int)) c w' ∧ Keep S w w' := by
  obtain ⟨v, h⟩ := h
  obtain ⟨g, cap, rfl, _, hg⟩ := h.row.form (by omega)
  have c1 : w.cell? ⟨l, 1, none⟩ = some (.slice (some ⟨g, 0, none⟩) I.length cap) := by rw [blk_cell h.blk]; rfl
  have c2 : w.cell? ⟨gl, 0, none⟩ = some (.pointer (some ⟨l, 0, none⟩)) := blk_cellZ hH.1 0 rfl
  have c3 : w.cell? ⟨ga, 0, none⟩ = some (.int .i64 (i : Int)) := blk_cellZ hH.2 0 rfl
  obtain ⟨cur, hc⟩ := row_lt h.row rfl
  have n1 : g ≠ l := blk_apart hc h.blk (by decide)
  have n2 : g ≠ gl := blk_apart hc hH.1 (by decide)
  have n3 : g ≠ ga := blk_apart hc hH.2 (by decide)
  have H := hid h
  have f1 : w.frozen? ⟨g, i * 3 + 1, none⟩ = false := row_free h.row _
  have hx : I[i]? = some I[i] := List.getElem?_eq_getElem hi
  have c4 : w.cell? ⟨g, i * 3 + 1, none⟩ = some (.int .i64 I[i].2.1) := by rw [Nat.mul_comm]; exact row_cell h.row (insC_at hx).2.1
  have hc' := hc
  clear h hH hc hx
  go_enter Tryd.func97, Tryd.ntmps97
  refine wp_region_held_drew (S := fun aZ => aZ.cell? ⟨l, 1, none⟩ = some (.slice (some ⟨g, 0, none⟩) I.length cap) ∧ aZ.cell? ⟨gl, 0, none⟩ = some (.pointer (some ⟨l, 0, none⟩)) ∧ aZ.cell? ⟨ga, 0, none⟩ = some (.int .i64 (i : Int))) (by kernel_rfl) ?_ (fun hHeld => ?_)
  · (refine ⟨?_, ?_, ?_⟩ <;> go_simp)
  refine tkk 0 ?_
  refine tkk 1 ?_
  refine tkk 2 ?_
  refine tkk 3 ?_
  refine tkk 4 ?_
  refine tkk 5 ?_
  refine tkk 6 ?_
  refine tkk 7 ?_
  refine tkk 8 ?_
  refine tkk 9 ?_
  refine tkk 10 ?_
  refine tkk 11 ?_
  refine rdy 12 (fun K hK => ?_)
  go_simp
  refine hK.out _ _ ?_ (fun _ => ?_)
  · (refine ⟨?_, ?_, ?_⟩ <;> (first | assumption | go_simp))
  clear hK K
  refine wpAnyH_done (by kernel_rfl) ?_ _
  go_end0
  have hO := H.out
  refine ⟨rfl, ⟨_, ⟨pl_setO (hO.pl.on (Below.refl _ _).drew) (blk_on hc' (Below.refl _ _).drew) (by decide) (by decide), ?_, ?_, hO.inl, hO.inv⟩⟩, (Keep.drew S w).trans (Keep.set (hO.inv g rfl) _ _ _) (fun _ _ q => q)⟩
  · exact (Below.heap_setCell _ _ _ _ n1.symm).trans hO.blk
  · rw [putA_len, insC_set _ _ _ hi, Nat.mul_comm 3 i]
    exact row_set (row_keep hO.row (fun _ _ => rfl)) _ _
end Go.Proofs.YtgdbaceehpcgbaaDoor
