/- A shape's names, in a row of one's own. The Forest's calls. -/
import Derived.Test.YtimhgbcanmgajaaGreatJoint5
import Derived.Test.YtimhgbcanmgajaaGreatJoint8
import Derived.Maps.AppendAt
import Derived.Test.YtimhgbcanmgajaaGreatShAdd
namespace Go.Proofs.YtimhgbcanmgajaaGreat
set_option linter.unusedSimpArgs false
open Go.RowKit Go.Shelf

theorem row_base {b b' : Nat} {T : TypeId} {z n : Nat} {v : Value} {xs : List Value} {w : World} (h : w.ownsRow b T z v n xs) (hb : b' ≤ b) : w.ownsRow b' T z v n xs := by
  refine ⟨h.1, ?_⟩
  rcases h.2 with h1 | ⟨g, cap, cur, h1, h2, h3⟩
  · exact .inl h1
  · exact .inr ⟨g, cap, cur, h1, Nat.le_trans hb h2, h3⟩
theorem row_new {b : Nat} {T : TypeId} {z n g : Nat} {v : Value} {xs : List Value} {w : World} (h : w.ownsRow b T z v n xs) (hg : v.ownBlock = some g) : b ≤ g ∧ g < w.heap.size := by
  obtain ⟨cur, hc⟩ := row_lt (row_base h (Nat.zero_le _)) hg
  rcases h.2 with ⟨h1, _⟩ | ⟨g', cap, cur, h1, h2, h3⟩
  · rw [h1] at hg; simp [Value.ownBlock] at hg
  · rw [h1] at hg
    simp [Value.ownBlock] at hg
    subst hg
    exact ⟨h2, blk_lt hc⟩
theorem row_lift {b : Nat} {T : TypeId} {z n : Nat} {v : Value} {xs : List Value} {w : World} (h : w.ownsRow 0 T z v n xs) (hb : ∀ g, v.ownBlock = some g → b ≤ g) : w.ownsRow b T z v n xs := by
  refine ⟨h.1, ?_⟩
  rcases h.2 with h1 | ⟨g, cap, cur, h1, h2, h3⟩
  · exact .inl h1
  · exact .inr ⟨g, cap, cur, h1, hb g (by rw [h1]; rfl), h3⟩
theorem box_app {W w1 : World} {base B : Nat} {t e : TypeId} {size : Nat} {v v' : Value} {k m : Nat} {xs ys : List Value} {tmp : Obj} {X : Nat → Prop}
    (hv : Boxed W B t v) (hte : t ≠ e) (hrow : W.ownsRow base e size v k xs) (hown' : w1.ownsRow base e size v' m ys) (hgrow : (W.alloc tmp).grownBy w1 v.ownBlock) (hXB : X B) (hX : ∀ b, base ≤ b → X b) :
    Boxed w1 B t v ∧ Boxed (w1.setCell ⟨B, 0, none⟩ v') B t v' ∧ (w1.setCell ⟨B, 0, none⟩ v').ownsRow base e size v' m ys ∧ KeepsOthers W (w1.setCell ⟨B, 0, none⟩ v') ∧ Keep X W (w1.setCell ⟨B, 0, none⟩ v') := by
  have hv1 : Boxed w1 B t v := (hv.alloc tmp).kept hgrow (hv.not_row hte hrow)
  refine ⟨hv1, hv1.set v', hown'.kept (grownBy_setCell' w1 B v') (.inr (hv1.not_row hte hown').symm), ?_, ?_⟩
  · refine ((KeepsOthers.alloc W tmp).trans (KeepsOthers.of_grownBy hgrow fun j o ej hj => ?_)).trans (KeepsOthers.setCell _ _ _)
    rcases (hrow.alloc tmp).2 with ⟨rfl, _⟩ | ⟨g, cap, cur, rfl, _, hgb, _⟩
    · simp [Value.ownBlock] at ej
    · obtain rfl : g = j := by simpa [Value.ownBlock] using ej
      rw [hgb] at hj; cases hj; rfl
  · refine ((Keep.alloc X W tmp).trans (Keep.grown hgrow fun j ej => ?_) (fun _ _ e => e)).trans (Keep.set hXB w1 0 v') (fun _ _ e => e)
    exact hX j (row_new hrow ej).1

theorem infoIn : ∃ i0, Tryz.prog.info? 3 = some i0 ∧ i0.zero = some (.int .i64 0) ∧ i0.size = 1 ∧ i0.bytes = 8 :=
  info_parts (show (Tryz.prog.info? 3).map (fun i => (i.zero, i.size, i.bytes)) = some (some (.int .i64 0), 1, 8) by kernel_rfl)
theorem underIs : Tryz.prog.underlying 31 = some (.slice 3) := by kernel_rfl
set_option maxRecDepth 100000 in
set_option maxHeartbeats 1000000 in
theorem snames_calls {M : Nat} {L : List Sh} {t m i : Nat} {v : Value} {g : Nat → Nat} {nm : Nat → Option Nat} {s : Sh} (w : World) (h : TrAt M L t m v g nm w) (hi : L[i]? = some s) :
    Calls Tryz.prog 156 #[.pointer (some ⟨t, 0, none⟩), .int .i64 ((i + 1 : Nat) : Int)] w fun e w' => ∃ v, e = .returned v ∧ w'.ownsRow w.heap.size 3 1 v s.2.length (s.2.map (Value.int .i64)) ∧ Below w.heap.size w w' := by
  have H := hid h
  have HI := hid hi
  have hlt := hid (fun b hb => h.lt (b := b) hb)
  obtain ⟨ii, hii, hz0, hz1, hz2⟩ := infoIn
  clear h hi
  generalize hid0 : ((i + 1 : Nat) : Int) = id
  have HE := hid hid0
  clear hid0
  refine (callsIn_wide (n := 6)).1 ?_
  refine callsIn_of_wp_marks Tryz.func156 rfl trivial ?_ rfl
  simp only [Tryz.ntmps156, List.size_toArray, List.length_cons, List.length_nil, Nat.reduceAdd, Nat.reduceSub, Array.replicate_succ, Array.replicate_zero, List.push_toArray, List.append_toArray, List.nil_append, List.cons_append]
  gi_wp2
  refine ⟨trivial, ?_⟩
  refine (callsIn_wide.2 (up_calls _ _ _)).mono ?_
  rintro e w' ⟨rfl, rfl⟩
  gi_wp2
  have bO := Boxed.new w 31 (.slice none 0 0)
  have bT := Boxed.new (w.alloc (.cells #[.slice none 0 0] 31)) 228 (.pointer (some ⟨t, 0, none⟩))
  have bI := Boxed.new ((w.alloc (.cells #[.slice none 0 0] 31)).alloc (.cells #[.pointer (some ⟨t, 0, none⟩)] 228)) 3 (.int .i64 id)
  simp only [World.size_alloc] at bT bI
  have hB0 : Below w.heap.size w (((w.alloc (.cells #[.slice none 0 0] 31)).alloc (.cells #[.pointer (some ⟨t, 0, none⟩)] 228)).alloc (.cells #[.int .i64 id] 3)) := (((Below.refl _ w).alloc (Nat.le_refl _) _).alloc (by simp) _).alloc (by simp; omega) _
  have hsz0 : (((w.alloc (.cells #[.slice none 0 0] 31)).alloc (.cells #[.pointer (some ⟨t, 0, none⟩)] 228)).alloc (.cells #[.int .i64 id] 3)).heap.size = w.heap.size + 1 + 1 + 1 := by simp
  refine wpIn_rangeFunc_ownG rfl (by omega) (gf := 180) (lb := #[.pointer (some ⟨w.heap.size + 1 + 1, 0, none⟩), .pointer (some ⟨w.heap.size + 1, 0, none⟩)]) rfl trivial (enters_of Tryz.func180 (by kernel_rfl) rfl)
    (up_stops 5 (w.heap.size + 1 + 1) (w.heap.size + 1) (fun b => b = w.heap.size ∨ w.heap.size + 1 + 1 + 1 ≤ b) HI.out _ (fun b hb => by have := hlt.out b hb; omega) (by omega) (by rw [HE.out]; exact bI) (bT.alloc _) (H.out.on hB0))
    keepX_t (keepX_b (fun b hb => .inr (by simpa using hb))) (Below.refl _ _) (fun _ => rfl)
    (fun pre W => (∃ v, Boxed W w.heap.size 31 v ∧ W.ownsRow (w.heap.size + 1 + 1 + 1) 3 1 v pre.length (pre.map (fun y => Value.int .i64 y.1.2)) ∧ True) ∧ (Below w.heap.size w W ∧ w.heap.size + 1 + 1 + 1 ≤ W.heap.size))
    (fun _ _ _ => False)
    (OwnFrom.and (Own.from (holdsRow_own (w.heap.size + 1 + 1 + 1) w.heap.size 31 3 1 (fun pre : List (Tld L s) => pre.length) (fun pre => pre.map (fun y => Value.int .i64 y.1.2)) (fun _ _ => True)) _) (OwnFrom.and (ownFrom_below (Nat.le_refl _) (by simp; omega)) (fun _ _ _ _ hs hg _ => Nat.le_trans hs hg.size)))
    (fun _ _ _ _ _ hs _ _ => hs)
    ⟨⟨_, (bO.alloc _).alloc _, World.ownsRow_nil _ _ _ _, trivial⟩, hB0, by rw [hsz0]; exact Nat.le_refl _⟩
    (fun y => { tmps := #[.pointer (some ⟨t, 0, none⟩), .int .i64 id, undef, undef, .slice none 0 0, .pointer (some ⟨w.heap.size, 0, none⟩), undef, .int .i64 y.1.2, .pointer (some ⟨t, 0, none⟩), .int .i64 id, .func (.func 180) #[] #[.pointer (some ⟨w.heap.size + 1 + 1, 0, none⟩), .pointer (some ⟨w.heap.size + 1, 0, none⟩)], .int .i64 y.1.1, .int .i64 y.1.2, undef, undef, undef, undef, undef, undef, undef], defers := [] }) ?assign ?body ?done ?stop
  case assign =>
    intro l x W K hK
    simp only [encU]
    gi_wp2_with (rw [Oper.semAt_eq _ _ _ (fun c h => by cases h)]; go_simp; try go_bits)
    exact hK
  case body =>
    rintro l pre y W ⟨⟨v0, hv, hrow, _⟩, hB, hsz⟩ hlen
    have hc := hv.cell
    have hl := H.out.wf.few _ _ HI.out
    rw [upS_length] at hlen
    gi_wp2_with (first | (gi_at_builtin; refine wpListIn_append_own _ rfl _ _ 31 rfl (w.heap.size + 1 + 1 + 1) 3 ii (.int .i64 0) 1 8 underIs hii hz0 hz1 hz2 rfl (by decide) _ _ _ rfl (hrow.alloc _) ⟨W.heap.size, 0, none⟩ 1 1 [.int .i64 y.1.2] rfl rfl (cell_one_new _ _ _) (by simp [Value.oneCell']) (by unfold maxLen; omega) (by omega) (by simp; omega) ?_; intro v' w1 hown' hgrow _; obtain ⟨g', cap', rfl⟩ := ownsRow_succ hown'; obtain ⟨hv1, hv2, hr2, hk2, hb2⟩ := box_app (X := fun b => b = w.heap.size ∨ w.heap.size + 1 + 1 + 1 ≤ b) hv (by decide) hrow hown' hgrow (.inl rfl) (fun b hb => .inr hb); have hc1 := hv1.cell; have hf1 := hv1.frozen) | (rw [Oper.semAt_eq _ _ _ (fun c h => by cases h)]; go_simp; try go_bits))
    refine ⟨hk2.from _, hb2, ⟨_, hv2, by simpa using hr2, trivial⟩, ?_, ?_⟩
    · exact hB.trans (hb2.below hB.size (fun k hk => by omega))
    · exact Nat.le_trans hsz hb2.size
  case done =>
    rintro D ys W hD rfl ⟨⟨v0, hv, hrow, _⟩, hB, hsz⟩ hK
    have hc := hv.cell
    have e1 : (upS L s).attach.map (fun y => Value.int .i64 y.1.2) = s.2.reverse.map (Value.int .i64) := by
      rw [← upS_names L s, List.map_map]
      conv => rhs; rw [← List.attach_map_subtype_val (upS L s), List.map_map]
      rfl
    have e2 : (upS L s).attach.length = s.2.reverse.length := by simp [upS_length]
    rw [e1, e2] at hrow
    have HR0 := rev_calls W (row_base hrow (Nat.zero_le _)) (by have := H.out.wf.few _ _ HI.out; simp; omega)
    rw [List.length_reverse] at hrow
    simp only [List.length_reverse, List.reverse_reverse] at HR0
    have HR := hid HR0
    clear HR0
    have HG := hid (fun gg hg => (row_new (g := gg) hrow hg).1)
    have hnr := hv.not_row (e := 3) (by decide) hrow
    have hDr : v0.ownBlock ≠ some D := fun e => by
      obtain ⟨cur, hc'⟩ := row_lt (row_base hrow (Nat.zero_le _)) e
      unfold Blk at hc'
      rw [hK] at hc'
      cases hc'
    obtain ⟨ao, cap, rfl⟩ := row_shape (row_base hrow (Nat.zero_le _))
    clear hrow e1 e2
    gi_wp2
    refine ⟨trivial, ?_⟩
    refine (callsIn_wide.2 HR.out).mono ?_
    rintro e3 w3 ⟨⟨u3, rfl⟩, r3, k3⟩
    have hv3 : Boxed w3 w.heap.size 31 (.slice ao s.2.length cap) := (k3.block _ hv.lt (fun e => hnr e.symm)).trans hv
    have hK3 : w3.heap[D]? = some (.deferred (some [])) := (k3.block D (Array.getElem?_eq_some_iff.1 hK).1 hDr).trans hK
    have hc3 := hv3.cell
    have hB3 : Below w.heap.size w w3 := hB.trans (k3.below hB.size (fun k hk => by have := HG.out k hk; omega))
    have R3 := hid r3
    clear r3 k3 HR
    gi_wp2
    refine ⟨by simp, .inl ⟨_, _, rfl, run_takeDeferred hK3, ?_⟩⟩
    refine ⟨_, results_tmp rfl _ _ _, _, rfl, ?_, hB3.trans (belowK_b (w := w) (Nat.le_refl _) w3 D _ _ (by simp at hD; omega) hK3 rfl rfl)⟩
    exact ownsRow_putObj (row_lift R3.out (fun gg hg => by have := HG.out gg hg; omega)) _ hK3 rfl
  case stop =>
    rintro D c pre W _ _ h _
    exact h.elim

end Go.Proofs.YtimhgbcanmgajaaGreat

namespace Go.Proofs.YtimhgbcanmgajaaGreat
set_option linter.unusedSimpArgs false
open Go.RowKit

def slotF (L : List Sh) (id x : Int) : Int := match getS L id with | some s => slotS s.2 x | none => -1
def namesF (L : List Sh) (id : Int) : List Int := match getS L id with | some s => s.2 | none => []
def protoF (L : List Sh) (id : Int) : Int := match getS L id with | some s => s.1 | none => 0
def parF (L : List Sh) (id : Int) : Nat := match getS L id with | some s => parS L s | none => 0

theorem FoS.of {S : Nat → Prop} {f t M : Nat} {L' : List Sh} {w w' : World} (hb : Blk f 231 #[.pointer (some ⟨t, 0, none⟩)] w) (hs : S f) (hT : TrS (Up (fun b => S b ∧ b ≠ f) w) t M L' w') (hk : Keep (fun b => S b ∧ b ≠ f) w w') : FoS (Up S w) f M L' w' ∧ Keep S w w' := by
  refine ⟨⟨t, blk_keep hb hk (fun e => e.2 rfl), hT.mono (fun b _ h => ?_), .inl hs⟩, hk.mono (fun b _ h => h.1)⟩
  have hf := blk_lt hb
  rcases h with h | h
  · exact ⟨.inl h.1, h.2⟩
  · exact ⟨.inr h, by omega⟩
theorem FoS.up {S : Nat → Prop} {f M : Nat} {L : List Sh} {w w' : World} (h : FoS S f M L w) (k : Below w.heap.size w w') : FoS (Up S w) f M L w' := (h.on k).mono (fun _ _ h => .inl h)

set_option maxHeartbeats 1000000 in
theorem froot_calls {S : Nat → Prop} {f M : Nat} {L : List Sh} (w : World) (h : FoS S f M L w) (p : Int) (hp : I64 p) :
    Calls Tryz.prog 105 #[.pointer (some ⟨f, 0, none⟩), .int .i64 p] w fun e w' => e = .returned (.int .i64 (rootN M L p : Int)) ∧ FoS (Up S w) f M (rootL M L p) w' ∧ Keep S w w' := by
  have H := hid h
  have HM := hid (fmade_calls w h)
  obtain ⟨t, h1, h2, h3⟩ := h
  have c0 : w.cell? ⟨f, 0, none⟩ = some (.pointer (some ⟨t, 0, none⟩)) := by rw [blk_cell h1]; rfl
  by_cases hn : p < 0
  · rw [show rootN M L p = 0 from by unfold rootN; rw [if_pos hn], show rootL M L p = L from by unfold rootL; rw [if_pos hn]]
    clear h1 h2
    go_enter Tryz.func105, Tryz.ntmps105
    go_wp2_with fail
    refine HM.out.mono ?_
    rintro e1 w1 ⟨rfl, rfl⟩
    go_wp2_with fail
    go_ret
    exact ⟨rfl, H.out.up (Below.refl _ _), Keep.refl _ _⟩
  · rw [show rootN M L p = ofN M L (p, []) from by unfold rootN; rw [if_neg hn], show rootL M L p = ofL M L (p, []) from by unfold rootL; rw [if_neg hn]]
    have HR := hid (root_calls w h2 p ⟨by omega, hp⟩)
    have H1 := hid h1
    have H3 := hid h3
    clear h1 h2 h3
    go_enter Tryz.func105, Tryz.ntmps105
    go_wp2_with fail
    refine HM.out.mono ?_
    rintro e1 w1 ⟨rfl, rfl⟩
    go_wp2_with fail
    refine HR.out.mono ?_
    rintro e2 w2 ⟨rfl, t2, k2⟩
    have R := hid (FoS.of H1.out H3.out t2 k2)
    clear t2 k2
    go_wp2_with fail
    go_ret
    exact ⟨rfl, R.out⟩
set_option maxHeartbeats 1000000 in
theorem fadd_calls {S : Nat → Prop} {f M : Nat} {L : List Sh} (w : World) (h : FoS S f M L w) (id x : Int) (hx : I64 x) :
    Calls Tryz.prog 148 #[.pointer (some ⟨f, 0, none⟩), .int .i64 id, .int .i64 x] w fun e w' => e = .returned (.int .i64 (addN M L id x : Int)) ∧ FoS (Up S w) f M (addL M L id x) w' ∧ Keep S w w' := by
  have H := hid h
  have HM := hid (fhas_calls w h id)
  obtain ⟨t, h1, h2, h3⟩ := h
  have c0 : w.cell? ⟨f, 0, none⟩ = some (.pointer (some ⟨t, 0, none⟩)) := by rw [blk_cell h1]; rfl
  cases hg : getS L id with
  | none =>
    rw [show addN M L id x = 0 from by unfold addN; rw [hg], show addL M L id x = L from by unfold addL; rw [hg]]
    rw [hg] at HM
    clear h1 h2
    go_enter Tryz.func148, Tryz.ntmps148
    go_wp2_with fail
    refine HM.out.mono ?_
    rintro e1 w1 ⟨rfl, rfl⟩
    go_wp2_with fail
    go_ret
    exact ⟨rfl, H.out.up (Below.refl _ _), Keep.refl _ _⟩
  | some s =>
    rw [hg] at HM
    obtain ⟨i, rfl, hi⟩ := getS_some hg
    have HR := hid (shadd_calls w h2 hi x hx)
    have H1 := hid h1
    have H3 := hid h3
    clear h1 h2 h3 hg hi
    generalize ((i + 1 : Nat) : Int) = id at *
    go_enter Tryz.func148, Tryz.ntmps148
    go_wp2_with fail
    refine HM.out.mono ?_
    rintro e1 w1 ⟨rfl, rfl⟩
    go_wp2_with fail
    refine HR.out.mono ?_
    rintro e2 w2 ⟨rfl, t2, k2⟩
    have R := hid (FoS.of H1.out H3.out t2 k2)
    clear t2 k2
    go_wp2_with fail
    go_ret
    exact ⟨rfl, R.out⟩
set_option maxHeartbeats 1000000 in
theorem fslot_calls {S : Nat → Prop} {f M : Nat} {L : List Sh} (w : World) (h : FoS S f M L w) (id : Int) (x : Int) :
    Calls Tryz.prog 165 #[.pointer (some ⟨f, 0, none⟩), .int .i64 id, .int .i64 x] w fun e w' => e = .returned (.int .i64 (slotF L id x)) ∧ Below w.heap.size w w' := by
  have HM := hid (fhas_calls w h id)
  obtain ⟨t, h1, ⟨m, v, g, nm, h2, _⟩, h3⟩ := h
  have c0 : w.cell? ⟨f, 0, none⟩ = some (.pointer (some ⟨t, 0, none⟩)) := by rw [blk_cell h1]; rfl
  cases hg : getS L id with
  | none =>
    rw [show slotF L id x = -1 from by unfold slotF; rw [hg]]
    rw [hg] at HM
    clear h1 h2
    go_enter Tryz.func165, Tryz.ntmps165
    go_wp2_with fail
    refine HM.out.mono ?_
    rintro e1 w1 ⟨rfl, rfl⟩
    go_wp2_with fail
    go_ret
    exact ⟨rfl, Below.refl _ _⟩
  | some s =>
    rw [hg] at HM
    obtain ⟨i, rfl, hi⟩ := getS_some hg
    rw [show slotF L ((i + 1 : Nat) : Int) x = slotS s.2 x from by unfold slotF; rw [hg]]
    have HR := hid (slot_calls w h2 hi x)
    clear h1 h2 hg hi
    generalize ((i + 1 : Nat) : Int) = id at *
    go_enter Tryz.func165, Tryz.ntmps165
    go_wp2_with fail
    refine HM.out.mono ?_
    rintro e1 w1 ⟨rfl, rfl⟩
    go_wp2_with fail
    refine HR.out.mono ?_
    rintro e2 w2 ⟨rfl, b2⟩
    have B2 := hid b2
    clear b2
    go_wp2_with fail
    go_ret
    exact ⟨rfl, B2.out⟩
/-- names in a row of one's own -/
def NamesR (L : List Sh) (id : Int) (w : World) (e : Ending) (w' : World) : Prop := ∃ v, e = .returned v ∧ w'.ownsRow w.heap.size 3 1 v (namesF L id).length ((namesF L id).map (Value.int .i64)) ∧ Below w.heap.size w w'
set_option maxHeartbeats 1000000 in
theorem fnames_calls {S : Nat → Prop} {f M : Nat} {L : List Sh} (w : World) (h : FoS S f M L w) (id : Int) :
    Calls Tryz.prog 169 #[.pointer (some ⟨f, 0, none⟩), .int .i64 id] w fun e w' => NamesR L id w e w' := by
  have HM := hid (fhas_calls w h id)
  obtain ⟨t, h1, ⟨m, v, g, nm, h2, _⟩, h3⟩ := h
  have c0 : w.cell? ⟨f, 0, none⟩ = some (.pointer (some ⟨t, 0, none⟩)) := by rw [blk_cell h1]; rfl
  cases hg : getS L id with
  | none =>
    have hnf : namesF L id = [] := by unfold namesF; rw [hg]
    rw [hg] at HM
    clear h1 h2
    go_enter Tryz.func169, Tryz.ntmps169
    go_wp2_with fail
    refine HM.out.mono ?_
    rintro e1 w1 ⟨rfl, rfl⟩
    go_wp2_with fail
    go_ret
    exact ⟨_, rfl, by rw [hnf]; exact World.ownsRow_nil _ _ _ _, Below.refl _ _⟩
  | some s =>
    rw [hg] at HM
    obtain ⟨i, rfl, hi⟩ := getS_some hg
    have hnf : namesF L ((i + 1 : Nat) : Int) = s.2 := by unfold namesF; rw [hg]
    unfold NamesR
    rw [hnf]
    have HR := hid (snames_calls w h2 hi)
    clear hnf
    clear h1 h2 hg hi
    generalize ((i + 1 : Nat) : Int) = id at *
    go_enter Tryz.func169, Tryz.ntmps169
    go_wp2_with fail
    refine HM.out.mono ?_
    rintro e1 w1 ⟨rfl, rfl⟩
    go_wp2_with fail
    refine HR.out.mono ?_
    rintro e2 w2 ⟨v2, rfl, r2, b2⟩
    have B2 := hid b2
    have R2 := hid r2
    clear b2 r2
    go_wp2_with fail
    go_ret
    exact ⟨_, rfl, R2.out, B2.out⟩
set_option maxHeartbeats 1000000 in
theorem fproto_calls {S : Nat → Prop} {f M : Nat} {L : List Sh} (w : World) (h : FoS S f M L w) (id : Int) :
    Calls Tryz.prog 147 #[.pointer (some ⟨f, 0, none⟩), .int .i64 id] w fun e w' => e = .returned (.tuple #[.int .i64 (protoF L id), .bool (getS L id).isSome]) ∧ w' = w := by
  have HM := hid (fhas_calls w h id)
  obtain ⟨t, h1, ⟨m, v, g, nm, h2, _⟩, h3⟩ := h
  have c0 : w.cell? ⟨f, 0, none⟩ = some (.pointer (some ⟨t, 0, none⟩)) := by rw [blk_cell h1]; rfl
  cases hg : getS L id with
  | none =>
    rw [show protoF L id = 0 from by unfold protoF; rw [hg]]
    rw [hg] at HM
    clear h1 h2
    go_enter Tryz.func147, Tryz.ntmps147
    go_wp2_with fail
    refine HM.out.mono ?_
    rintro e1 w1 ⟨rfl, rfl⟩
    go_wp2_with fail
    go_ret2
    exact ⟨rfl, rfl⟩
  | some s =>
    rw [hg] at HM
    obtain ⟨i, rfl, hi⟩ := getS_some hg
    rw [show protoF L ((i + 1 : Nat) : Int) = s.1 from by unfold protoF; rw [hg]]
    have o := h2.one i s hi
    obtain ⟨q0, q1, q2, q3⟩ := o.cells
    have HR := hid (sat_calls w h2 (lt_of_get hi))
    have hgl := blk_lt o.blk
    clear o
    clear h1 h2 hg hi
    generalize ((i + 1 : Nat) : Int) = id at *
    go_enter Tryz.func147, Tryz.ntmps147
    go_wp2_with fail
    refine HM.out.mono ?_
    rintro e1 w1 ⟨rfl, rfl⟩
    go_wp2_with fail
    refine HR.out.mono ?_
    rintro e2 w2 ⟨rfl, rfl⟩
    go_wp2_with fail
    go_ret2
    exact ⟨rfl, rfl⟩
set_option maxHeartbeats 1000000 in
theorem fparent_calls {S : Nat → Prop} {f M : Nat} {L : List Sh} (w : World) (h : FoS S f M L w) (id : Int) :
    Calls Tryz.prog 143 #[.pointer (some ⟨f, 0, none⟩), .int .i64 id] w fun e w' => e = .returned (.int .i64 (parF L id : Int)) ∧ w' = w := by
  have HM := hid (fhas_calls w h id)
  obtain ⟨t, h1, ⟨m, v, g, nm, h2, _⟩, h3⟩ := h
  have c0 : w.cell? ⟨f, 0, none⟩ = some (.pointer (some ⟨t, 0, none⟩)) := by rw [blk_cell h1]; rfl
  cases hg : getS L id with
  | none =>
    rw [show parF L id = 0 from by unfold parF; rw [hg]]
    rw [hg] at HM
    clear h1 h2
    go_enter Tryz.func143, Tryz.ntmps143
    go_wp2_with fail
    refine HM.out.mono ?_
    rintro e1 w1 ⟨rfl, rfl⟩
    go_wp2_with fail
    go_ret
    exact ⟨rfl, rfl⟩
  | some s =>
    rw [hg] at HM
    obtain ⟨i, rfl, hi⟩ := getS_some hg
    rw [show parF L ((i + 1 : Nat) : Int) = parS L s from by unfold parF; rw [hg]]
    have o := h2.one i s hi
    obtain ⟨q0, q1, q2, q3⟩ := o.cells
    have HR := hid (sat_calls w h2 (lt_of_get hi))
    have hgl := blk_lt o.blk
    clear o
    clear h1 h2 hg hi
    generalize ((i + 1 : Nat) : Int) = id at *
    go_enter Tryz.func143, Tryz.ntmps143
    go_wp2_with fail
    refine HM.out.mono ?_
    rintro e1 w1 ⟨rfl, rfl⟩
    go_wp2_with fail
    refine HR.out.mono ?_
    rintro e2 w2 ⟨rfl, rfl⟩
    go_wp2_with fail
    go_ret
    exact ⟨rfl, rfl⟩

theorem addsP_take (M : Nat) : ∀ (xs : List Int) (k : Nat) (x : Int) (q : Nat × List Sh), xs[k]? = some x → addsP M (xs.take (k + 1)) q = (addN M (addsP M (xs.take k) q).2 (addsP M (xs.take k) q).1 x, addL M (addsP M (xs.take k) q).2 (addsP M (xs.take k) q).1 x)
  | [], k, x, q, h => by simp at h
  | y :: r, 0, x, q, h => by
    have : y = x := by simpa using h
    subst this
    rfl
  | y :: r, k + 1, x, q, h => by
    have := addsP_take M r k x (addN M q.2 q.1 y, addL M q.2 q.1 y) (by simpa using h)
    simpa [addsP] using this
set_option maxHeartbeats 2000000 in
theorem fmove_calls {S : Nat → Prop} {f M : Nat} {L : List Sh} (w : World) (h : FoS S f M L w) (id p : Int) (hp : I64 p) :
    Calls Tryz.prog 119 #[.pointer (some ⟨f, 0, none⟩), .int .i64 id, .int .i64 p] w fun e w' => e = .returned (.int .i64 ((moveP M L id p).1 : Int)) ∧ FoS (Up S w) f M (moveP M L id p).2 w' ∧ Keep S w w' := by
  have H := hid h
  have HM := hid (fhas_calls w h id)
  cases hg : getS L id with
  | none =>
    rw [show moveP M L id p = (0, L) from by unfold moveP; rw [hg]]
    rw [hg] at HM
    clear h
    go_enter Tryz.func119, Tryz.ntmps119
    go_wp2_with fail
    refine HM.out.mono ?_
    rintro e1 w1 ⟨rfl, rfl⟩
    go_wp2_with fail
    go_ret
    exact ⟨rfl, H.out.up (Below.refl _ _), Keep.refl _ _⟩
  | some s =>
    rw [hg] at HM
    rw [show moveP M L id p = addsP M s.2 (rootN M L p, rootL M L p) from by unfold moveP; rw [hg]]
    obtain ⟨i, rfl, hi⟩ := getS_some hg
    have HI := hid hi
    have HR := hid (froot_calls w h p hp)
    have hfew := h.wf.few i s hi
    have HFi := hid (h.wf.fits i s hi)
    clear hg hi h
    generalize hid0 : ((i + 1 : Nat) : Int) = id at *
    have HE := hid hid0
    clear hid0
    generalize hq : ((rootN M L p, rootL M L p) : Nat × List Sh) = q at *
    have hq1 : rootN M L p = q.1 := by rw [← hq]
    have hq2 : rootL M L p = q.2 := by rw [← hq]
    rw [hq1, hq2] at HR
    have HSt := hid (show q.2[i]? = some s by rw [← hq2]; exact rootL_stay HI.out)
    clear hq hq1 hq2
    go_enter Tryz.func119, Tryz.ntmps119
    go_wp2_with fail
    refine HM.out.mono ?_
    rintro e1 w1 ⟨rfl, rfl⟩
    go_wp2_with fail
    refine HR.out.mono ?_
    rintro e2 w2 ⟨rfl, f2, k2⟩
    have F2 := hid f2
    have K2 := hid k2
    obtain ⟨t, h1, ⟨m, v, g, nm, h2, _⟩, h3⟩ := f2
    have c0 : w2.cell? ⟨f, 0, none⟩ = some (.pointer (some ⟨t, 0, none⟩)) := by rw [blk_cell h1]; rfl
    have hfl := blk_lt h1
    have HN := hid (snames_calls w2 h2 HSt.out)
    rw [HE.out] at HN
    clear h1 h2 h3 k2
    go_wp2_with fail
    refine HN.out.mono ?_
    rintro e3 w3 ⟨v3, rfl, r3, b3⟩
    have B3 := hid b3
    have R3 := hid r3
    have HG := hid (fun gb hgb => row_new (g := gb) r3 hgb)
    have F3 := hid (show FoS (fun b => Up S w1 b ∧ ¬ (w2.heap.size ≤ b ∧ b < w3.heap.size)) f M q.2 w3 from (F2.out.mono (T := fun b => Up S w1 b ∧ ¬ (w2.heap.size ≤ b ∧ b < w3.heap.size)) (fun b hb h => ⟨h, by omega⟩)).on b3)
    have K3 := hid (K2.out.trans (Keep.of (S := S) b3) (fun _ _ e => e))
    obtain ⟨ao, cap, rfl⟩ := row_shape (row_base r3 (Nat.zero_le _))
    clear r3 b3 HN F2 K2
    go_wp2_with fail
    go_loopw [7, 24] (fun a b wr => ∃ k : Nat, k ≤ s.2.length ∧ b = .int .i64 k ∧ a = .int .i64 ((addsP M (s.2.take k) q).1 : Int) ∧ Hid (FoS (fun b => Up S w1 b ∧ ¬ (w2.heap.size ≤ b ∧ b < w3.heap.size)) f M (addsP M (s.2.take k) q).2 wr) ∧ Hid (Keep S w1 wr) ∧ Hid (wr.ownsRow w2.heap.size 3 1 (.slice ao s.2.length cap) s.2.length (s.2.map (Value.int .i64))) ∧ Hid (w3.heap.size ≤ wr.heap.size)) (fun _ b _ => s.2.length - (intOf b).toNat)
    case atStart => exact ⟨0, Nat.zero_le _, rfl, rfl, F3, K3, R3, hid (Nat.le_refl _)⟩
    case round =>
      obtain ⟨k, hk, rfl, rfl, hF, hK, hR, hZ⟩ := hrel
      by_cases hkl : k < s.2.length
      · obtain ⟨x, hx⟩ : ∃ x, s.2[k]? = some x := ⟨s.2[k], List.getElem?_eq_getElem hkl⟩
        obtain ⟨gb, cp, hgf, _, hgl⟩ := hR.out.form (by omega)
        injection hgf with hg1 hg2 hg3
        subst hg1 hg3
        have c1 := row_cell (row_base hR.out (Nat.zero_le _)) (j := k) (u := .int .i64 x) (by rw [List.getElem?_map, hx]; rfl)
        have HX := hid (HFi.out x (List.mem_of_getElem? hx))
        have HT := hid (addsP_take M s.2 k x q hx)
        generalize addsP M (s.2.take k) q = z at *
        obtain ⟨to, LL⟩ := z
        have HAd := hid (fadd_calls wr hF.out (to : Int) x HX.out)
        clear hx
        go_wp2_with fail
        refine HAd.out.mono ?_
        rintro e4 w4 ⟨rfl, f4, k4⟩
        have hgg := HG.out gb rfl
        have F4 := hid (show FoS (fun b => Up S w1 b ∧ ¬ (w2.heap.size ≤ b ∧ b < w3.heap.size)) f M (addsP M (s.2.take (k + 1)) q).2 w4 by
          rw [HT.out]
          refine f4.mono (fun b _ h => ?_)
          rcases h with h | h
          · exact h
          · have h5 := hZ.out
            have h6 := hK.out.size
            exact ⟨.inr (by omega), by omega⟩)
        have K4 := hid (hK.out.trans k4 (fun b hb h => by
          rcases h.1 with h | h
          · exact h
          · omega))
        have R4 := hid (row_lift (b := w2.heap.size) (row_keep (c := w4) (row_base hR.out (Nat.zero_le _)) (fun g' hg' => k4.block g' (row_new hR.out hg').2 (fun h => by
          have e : gb = g' := by simpa [Value.ownBlock] using hg'
          subst e
          exact h.2 hgg))) (fun g' hg' => (row_new hR.out hg').1))
        have Z4 := hid (Nat.le_trans hZ.out k4.size)
        have HT1 := hid (show (addsP M (s.2.take (k + 1)) q).1 = addN M LL (to : Int) x by rw [HT.out])
        clear f4 k4 HT hF hK hR hZ
        go_wp2_with fail
        exact ⟨⟨k + 1, by omega, by simp, by rw [HT1.out], F4, K4, R4, Z4⟩, by simp [intOf]; omega⟩
      · have hke : k = s.2.length := by omega
        subst hke
        go_wp2_with fail
        go_ret
        have h1 := hF.out
        rw [List.take_length] at h1 ⊢
        exact ⟨rfl, h1.mono (fun b _ h => h.1), hK.out⟩

end Go.Proofs.YtimhgbcanmgajaaGreat
