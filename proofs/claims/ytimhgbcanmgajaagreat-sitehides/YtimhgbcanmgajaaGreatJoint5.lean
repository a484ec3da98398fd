/- From a shape up through its parents: the iterator. How many names a shape has, which slot a name has. -/
import Derived.Test.YtimhgbcanmgajaaGreatJoint2
import Derived.Test.YtimhgbcanmgajaaGreatShMem
import Derived.RangeFuncNested
import Derived.RangeFuncBound
import Derived.RangeFuncCalls
import Derived.RangeFuncLeaves
import Derived.RangeFuncBox
import Derived.Shelf.Abstract
import Derived.Shelf.RegionOpen
import Derived.WalkKit
import Derived.OwnWalkIn
import Derived.TacticsInMore
import Derived.LoopNIn
import Derived.LoopIn
import Derived.Deep.RegionHeld3
namespace Go.Proofs.YtimhgbcanmgajaaGreat
set_option linter.unusedSimpArgs false
open Go.RowKit Go.Shelf

/-- what is told of a shape, each with what is known of it -/
abbrev Tld (L : List Sh) (s : Sh) := { y : Int × Int // y ∈ upS L s }
abbrev encU {L : List Sh} {s : Sh} (y : Tld L s) : Array Value := #[.int .i64 y.1.1, .int .i64 y.1.2]

theorem vals_inj {α : Type} {p : α → Prop} : ∀ {a b : List { y : α // p y }}, a.map (·.1) = b.map (·.1) → a = b
  | [], [], _ => rfl
  | [], _ :: _, h => by simp at h
  | _ :: _, [], h => by simp at h
  | x :: a, y :: b, h => by
    simp only [List.map_cons, List.cons.injEq] at h
    rw [Subtype.ext h.1, vals_inj h.2]
theorem vals_all {α : Type} {l : List α} {a : List { y : α // y ∈ l }} (h : a.map (·.1) = l) : a = l.attach := vals_inj (by rw [h]; simp)
theorem vals_part {α : Type} {l r : List α} {a : List { y : α // y ∈ l }} (h : l = a.map (·.1) ++ r) : a <+: l.attach := by
  have hr : ∀ (r' : List α), (∀ y ∈ r', y ∈ l) → ∃ b : List { y : α // y ∈ l }, b.map (·.1) = r' := by
    intro r'
    induction r' with
    | nil => intro _; exact ⟨[], rfl⟩
    | cons y r' ih =>
      intro hy
      obtain ⟨b, hb⟩ := ih (fun z hz => hy z (by simp [hz]))
      exact ⟨⟨y, hy y (by simp)⟩ :: b, by simp [hb]⟩
  obtain ⟨b, hb⟩ := hr r (fun y hy => by rw [h]; simp [hy])
  exact ⟨b, vals_all (by rw [List.map_append, hb]; exact h.symm)⟩

set_option maxRecDepth 100000 in
set_option maxHeartbeats 1000000 in
theorem up1_in {M : Nat} {L : List Sh} {t m i0 : Nat} {v : Value} {g : Nat → Nat} {nm : Nat → Option Nat} {s0 : Sh} (n l Bi Bt : Nat) (X : Nat → Prop) (hi0 : L[i0]? = some s0) (J Jx : List (Tld L s0) → World → Prop)
    (hY : ∀ pre x W, J pre W → pre.length < (upS L s0).length → YieldAt Fence.wide (n - 1) Tryz.prog l (encU x) W fun e W' =>
      (e = .returned (.bool true) ∧ J (pre ++ [x]) W' ∧ Keep X W W') ∨ (e = .returned (.bool false) ∧ Jx (pre ++ [x]) W'))
    (hX : ∀ b, FtS L.length t m v g nm b → ¬ X b) (hXt : ¬ X Bt)
    (hJd : ∀ pre W, J pre W → J pre W.drew) (W : World) (hBi : Blk Bi 3 #[.int .i64 ((i0 + 1 : Nat) : Int)] W) (hBt : Blk Bt 228 #[.pointer (some ⟨t, 0, none⟩)] W) (hT : TrAt M L t m v g nm W) (h0 : J [] W) :
    CallsIn Fence.wide n Tryz.prog 180 #[.func (.yield l) #[] #[], .pointer (some ⟨Bi, 0, none⟩), .pointer (some ⟨Bt, 0, none⟩)] W fun e W' => (∃ v, e = .returned v) ∧
      ((∃ ys, ys = (upS L s0).attach ∧ J ys W') ∨ (∃ pre, pre <+: (upS L s0).attach ∧ Jx pre W')) := by
  have c1 : W.cell? ⟨Bi, 0, none⟩ = some (.int .i64 ((i0 + 1 : Nat) : Int)) := by rw [blk_cell hBi]; rfl
  have c2 : W.cell? ⟨Bt, 0, none⟩ = some (.pointer (some ⟨t, 0, none⟩)) := by rw [blk_cell hBt]; rfl
  have HT := hid hT
  have HB := hid hBt
  have hl0 := lt_of_get hi0
  clear hT hBt hBi
  refine callsIn_of_wp Tryz.func180 rfl trivial ?_ rfl
  simp only [Tryz.ntmps180, List.size_toArray, List.length_cons, List.length_nil, Nat.reduceAdd, Nat.reduceSub, Array.replicate_succ, Array.replicate_zero, List.push_toArray, List.append_toArray, List.nil_append, List.cons_append]
  gi_wp2
  refine wpIn_wide.2 ?_
  refine wp_region_held_drew (S := fun a => a.cell? ⟨Bi, 0, none⟩ = some (.int .i64 ((i0 + 1 : Nat) : Int)) ∧ a.cell? ⟨Bt, 0, none⟩ = some (.pointer (some ⟨t, 0, none⟩))) (by kernel_rfl) ⟨c1, c2⟩ (fun hHeld => ?_)
  refine tkk 0 ?_
  refine tkk 1 ?_
  refine tkk 2 ?_
  refine rdy 3 (fun K hK => ?_)
  go_simp
  refine (sat_calls _ (HT.out.on (Below.refl _ _).drew) hl0).mono ?_
  rintro e1 w1 ⟨rfl, rfl⟩
  go_simp
  refine hK.out _ _ ⟨c1, c2⟩ (fun _ => ?_)
  clear hK K
  refine tkk 4 ?_
  refine tkk 5 ?_
  refine wpAnyH_done (by kernel_rfl) ?_ _
  have HX := hid hX
  have HD := hid hJd
  have HW2 := hid (HT.out.on (Below.refl _ W).drew)
  have HB2 := hid (blk_on HB.out (Below.refl _ W).drew)
  have h02 := hJd _ _ h0
  clear hX hJd h0 hHeld c1 c2 HT HB
  gi_wp2
  gi_loopw [4, 5] (fun a sp wr => ∃ (pre : List (Tld L s0)) (i : Nat) (s : Sh), L[i]? = some s ∧ a = .int .i64 ((i + 1 : Nat) : Int) ∧ sp = .pointer (some ⟨g i, 0, none⟩) ∧ Hid (upS L s0 = pre.map (·.1) ++ upS L s) ∧ Hid (TrAt M L t m v g nm wr) ∧ Hid (Blk Bt 228 #[.pointer (some ⟨t, 0, none⟩)] wr) ∧ J pre wr)
    (fun a _ _ => (intOf a).toNat)
  case atStart => exact ⟨[], i0, s0, hi0, rfl, rfl, hid rfl, HW2, HB2, h02⟩
  case round =>
    obtain ⟨pre, i, ⟨p, ns⟩, hi, rfl, rfl, hE, hT, hB, hJ⟩ := hrel
    have ho := hT.out.one i _ hi
    obtain ⟨q1, q2, q3, q4⟩ := ho.cells
    have hgl := blk_lt ho.blk
    rcases List.eq_nil_or_concat ns with rfl | ⟨ns', x, rfl⟩
    · rw [parS_root] at q2
      clear ho
      gi_wp2
      go_end0
      refine ⟨⟨_, rfl⟩, .inl ?_⟩
      have hp : pre = (upS L s0).attach := vals_all (by have := hE.out; rw [upS_root] at this; simpa using this.symm)
      rw [hp] at hJ
      first | exact hJ | exact ⟨_, rfl, hJ⟩
    · rw [List.concat_eq_append] at *
      obtain ⟨j, hj, hg, hpar⟩ := hT.out.wf.par hi
      rw [hpar] at q2
      rw [lastS_snoc] at q3
      have hnum : numS L (p, ns' ++ [x]) = i + 1 := by unfold numS; rw [hT.out.wf.at' hi]
      have hE' := hE.out
      rw [upS_snoc, hnum] at hE'
      have hlen : pre.length < (upS L s0).length := by rw [hE']; simp
      obtain ⟨y, hy1⟩ : ∃ y : Tld L s0, y.1 = (((i + 1 : Nat) : Int), x) := ⟨⟨_, by rw [hE']; simp⟩, rfl⟩
      obtain ⟨fn, tmps, assign, body, hy, hR⟩ := hY pre y _ hJ hlen
      dsimp only [encU] at hy
      rw [hy1] at hy
      dsimp only at hy
      rw [show ((i + 1 : Nat) : Int) = (i : Int) + 1 from by omega] at hy
      have HY1 := hid hy1
      clear hy1
      have HE := hid hE'
      have HG := hid ho
      have hjl := lt_of_get hg
      have HP := hid hpar
      clear ho hE hE' hnum hpar
      gi_wp2
      refine ⟨fun h => absurd h (by decide), hR.mono ?_⟩
      rintro e W3 (⟨rfl, hJ3, hk3⟩ | ⟨rfl, hJx3⟩)
      · have hT3 := hid (hT.out.keep (c := W3) (fun b hb => hk3.block b (hT.out.lt hb) (HX.out b hb)))
        have hB3 := hid (blk_keep hB.out hk3 hXt)
        have r1 : W3.cell? ⟨Bt, 0, none⟩ = some (.pointer (some ⟨t, 0, none⟩)) := by rw [blk_cell hB3.out]; rfl
        have r2 : W3.cell? ⟨g i, 1, none⟩ = some (.int .i64 ((j + 1 : Nat) : Int)) := by
          have := (hT3.out.one i _ hi).cells.2.1
          rw [HP.out] at this
          exact this
        have hgl3 := Nat.lt_of_lt_of_le hgl hk3.size
        clear hk3 hT hB q1 q2 q3 q4 HG
        gi_wp2
        refine wpIn_wide.2 ?_
        refine wp_region_held_drew (S := fun a => a.cell? ⟨g i, 1, none⟩ = some (.int .i64 ((j + 1 : Nat) : Int)) ∧ a.cell? ⟨Bt, 0, none⟩ = some (.pointer (some ⟨t, 0, none⟩))) (by kernel_rfl) ⟨r2, r1⟩ (fun hHeld => ?_)
        refine tkk 0 ?_
        refine tkk 1 ?_
        refine tkk 2 ?_
        refine tkk 3 ?_
        refine tkk 4 ?_
        refine tkk 5 ?_
        refine tkk 6 ?_
        refine tkk 7 ?_
        refine tkk 8 ?_
        refine rdy 9 (fun K hK => ?_)
        go_simp
        refine (sat_calls _ (hT3.out.on (Below.refl _ _).drew) hjl).mono ?_
        rintro e1 w1 ⟨rfl, rfl⟩
        go_simp
        refine hK.out _ _ ⟨r2, r1⟩ (fun _ => ?_)
        clear hK K
        refine tkk 10 ?_
        refine tkk 11 ?_
        refine wpAnyH_done (by kernel_rfl) ?_ _
        gi_wp2
        go_roundw
        case rel =>
          refine ⟨pre ++ [y], j, (p, ns'), hg, rfl, rfl, hid ?_, hid (hT3.out.on (Below.refl _ _).drew), hid (blk_on hB3.out (Below.refl _ _).drew), HD.out _ _ hJ3⟩
          refine HE.out.trans ?_
          simp [HY1.out]
        case measure => simp [intOf]; omega
      · gi_wp2
        refine bodyPost_ret (results_none rfl _ _ _) rfl ?_
        refine ⟨⟨_, rfl⟩, .inr ⟨_, vals_part (r := upS L (p, ns')) ?_, hJx3⟩⟩
        refine HE.out.trans ?_
        simp [HY1.out]

theorem up_stops {M : Nat} {L : List Sh} {t m i0 : Nat} {v : Value} {g : Nat → Nat} {nm : Nat → Option Nat} {s0 : Sh} (n Bi Bt : Nat) (X : Nat → Prop) (hi0 : L[i0]? = some s0) (w : World)
    (hX : ∀ b, FtS L.length t m v g nm b → ¬ X b) (hXt : ¬ X Bt) (hBi : Blk Bi 3 #[.int .i64 ((i0 + 1 : Nat) : Int)] w) (hBt : Blk Bt 228 #[.pointer (some ⟨t, 0, none⟩)] w) (hT : TrAt M L t m v g nm w) :
    SeqStopsK Fence.wide n Tryz.prog 180 #[.pointer (some ⟨Bi, 0, none⟩), .pointer (some ⟨Bt, 0, none⟩)] (encU (L := L) (s := s0)) (Keep X) (fun ys => ys = (upS L s0).attach) (fun pre => pre <+: (upS L s0).attach) (upS L s0).length w := fun l J Jx W hW hJ _ hY h0 =>
  up1_in n l Bi Bt X hi0 J Jx hY hX hXt (fun pre W' h => hJ pre W' _ none h ⟨rfl, rfl, rfl, Nat.le_refl _, fun _ _ _ => rfl⟩ (fun r e => by cases e)) W (blk_on hBi hW) (blk_on hBt hW) (hT.on hW) h0

end Go.Proofs.YtimhgbcanmgajaaGreat

namespace Go.Proofs.YtimhgbcanmgajaaGreat
set_option linter.unusedSimpArgs false
open Go.RowKit Go.Shelf

theorem keepX_t {X : Nat → Prop} {A B C : World} (h : Keep X A B) (k : Keep X B C) : Keep X A C := h.trans k (fun _ _ e => e)
theorem keepX_b {X : Nat → Prop} {n : Nat} (hn : ∀ b, n ≤ b → X b) (W : World) (l : Nat) (o o' : Obj) (hl : n ≤ l) (_ : W.heap[l]? = some o) (_ : o.isCells = false) (_ : o.isWalk = false) : Keep X W (W.putObj l o') :=
  Keep.grown (grownBy_putObj' W l o') (fun k e => by cases e; exact hn _ hl)
theorem Below.keepX {X : Nat → Prop} {n : Nat} {A B : World} (h : Below n A B) (hX : ∀ b, n ≤ b → X b) : Keep X A B := ⟨h.os, h.tape, h.output, h.size, fun k _ hn => h.block k (by
  rcases Nat.lt_or_ge k n with h1 | h1
  · exact h1
  · exact absurd (hX k h1) hn)⟩
set_option maxRecDepth 100000 in
set_option maxHeartbeats 1000000 in
theorem ssize_calls {M : Nat} {L : List Sh} {t m i : Nat} {v : Value} {g : Nat → Nat} {nm : Nat → Option Nat} {s : Sh} (w : World) (h : TrAt M L t m v g nm w) (hi : L[i]? = some s) :
    Calls Tryz.prog 176 #[.pointer (some ⟨t, 0, none⟩), .int .i64 ((i + 1 : Nat) : Int)] w fun e w' => e = .returned (.int .i64 (s.2.length : Int)) ∧ Below w.heap.size w w' := by
  have H := hid h
  have HI := hid hi
  have hlt := hid (fun b hb => h.lt (b := b) hb)
  have b0 : Below w.heap.size w (w.alloc (.cells #[.int .i64 0] 3)) := (Below.refl _ w).alloc (Nat.le_refl _) _
  clear h hi
  generalize hid0 : ((i + 1 : Nat) : Int) = id
  have HE := hid hid0
  clear hid0
  refine (callsIn_wide (n := 6)).1 ?_
  refine callsIn_of_wp_marks Tryz.func176 rfl trivial ?_ rfl
  simp only [Tryz.ntmps176, List.size_toArray, List.length_cons, List.length_nil, Nat.reduceAdd, Nat.reduceSub, Array.replicate_succ, Array.replicate_zero, List.push_toArray, List.append_toArray, List.nil_append, List.cons_append]
  gi_wp2
  refine ⟨trivial, ?_⟩
  refine (callsIn_wide.2 (up_calls _ _ _)).mono ?_
  rintro e w' ⟨rfl, rfl⟩
  gi_wp2
  have bO := Boxed.new w 3 (.int .i64 0)
  have bT := Boxed.new (w.alloc (.cells #[.int .i64 0] 3)) 228 (.pointer (some ⟨t, 0, none⟩))
  have bI := Boxed.new ((w.alloc (.cells #[.int .i64 0] 3)).alloc (.cells #[.pointer (some ⟨t, 0, none⟩)] 228)) 3 (.int .i64 id)
  simp only [World.size_alloc] at bT bI
  have hB0 : Below w.heap.size w (((w.alloc (.cells #[.int .i64 0] 3)).alloc (.cells #[.pointer (some ⟨t, 0, none⟩)] 228)).alloc (.cells #[.int .i64 id] 3)) := (b0.alloc (by simp) _).alloc (by simp; omega) _
  refine wpIn_rangeFunc_ownG rfl (by omega) (gf := 180) (lb := #[.pointer (some ⟨w.heap.size + 1 + 1, 0, none⟩), .pointer (some ⟨w.heap.size + 1, 0, none⟩)]) rfl trivial (enters_of Tryz.func180 (by kernel_rfl) rfl)
    (up_stops 5 (w.heap.size + 1 + 1) (w.heap.size + 1) (fun b => b = w.heap.size ∨ w.heap.size + 1 + 1 + 1 ≤ b) HI.out _ (fun b hb => by have := hlt.out b hb; omega) (by omega) (by rw [HE.out]; exact bI) (bT.alloc _) (H.out.on hB0))
    keepX_t (keepX_b (fun b hb => .inr (by simpa using hb))) (Below.refl _ _) (fun _ => rfl)
    (fun pre W => Boxed W w.heap.size 3 (.int .i64 (pre.length : Int)) ∧ Below w.heap.size w W)
    (fun _ _ _ => False)
    (OwnFrom.and (Own.from (boxed_own _ _ (fun pre : List (Tld L s) => Value.int .i64 (pre.length : Int))) _) (ownFrom_below (Nat.le_refl _) (by simp; omega)))
    (fun _ _ _ _ _ hs _ _ => hs)
    ⟨(bO.alloc _).alloc _, hB0⟩
    (fun x => { tmps := #[.pointer (some ⟨t, 0, none⟩), .int .i64 id, undef, undef, .int .i64 0, .pointer (some ⟨w.heap.size, 0, none⟩), .pointer (some ⟨t, 0, none⟩), .int .i64 id, .func (.func 180) #[] #[.pointer (some ⟨w.heap.size + 1 + 1, 0, none⟩), .pointer (some ⟨w.heap.size + 1, 0, none⟩)], .int .i64 x.1.1, .int .i64 x.1.2, undef, undef, undef], defers := [] }) ?assign ?body ?done ?stop
  case assign =>
    intro l x W K hK
    gi_wp2
    simp [encU]
    exact hK
  case body =>
    rintro l pre x W ⟨hc, hB⟩ hlen
    have hc1 := hc.cell
    have hf1 := hc.frozen
    have hl := H.out.wf.few _ _ HI.out
    rw [upS_length] at hlen
    gi_wp2_with (rw [Oper.semAt_eq _ _ _ (fun c h => by cases h)]; go_simp; try go_bits)
    refine ⟨(KeepsOthers.setCell _ _ _).from _, Keep.set (S := fun b => b = w.heap.size ∨ w.heap.size + 1 + 1 + 1 ≤ b) (.inl rfl) W 0 _, ?_, hB.setCell (p := ⟨w.heap.size, 0, none⟩) (Nat.le_refl _) _⟩
    have := hc.set (.int .i64 ((pre.length : Int) + 1))
    simpa using this
  case done =>
    rintro D ys W hD rfl ⟨hc, hB⟩ hK
    have hc1 := hc.cell
    gi_wp2
    refine ⟨by simp, .inl ⟨_, _, rfl, run_takeDeferred hK, ?_⟩⟩
    exact ⟨_, results_tmp rfl _ _ _, by simp [upS_length], hB.trans (belowK_b (w := w) (Nat.le_refl _) W D _ _ (by simp at hD; omega) hK rfl rfl)⟩
  case stop =>
    rintro D c pre W _ _ h _
    exact h.elim

theorem keepsFrom_below {B : Nat} {W W' : World} (h : Below W.heap.size W W') : KeepsFrom B W W' := ⟨h.size, fun k _ _ hk _ => (h.block k (Array.getElem?_eq_some_iff.1 hk).1).trans hk⟩
theorem boxed_on {W W' : World} {B : Nat} {T : TypeId} {v : Value} (h : Boxed W B T v) (k : Below W.heap.size W W') : Boxed W' B T v := (k.block B h.lt).trans h
set_option maxRecDepth 100000 in
set_option maxHeartbeats 1000000 in
theorem slot_calls {M : Nat} {L : List Sh} {t m i : Nat} {v : Value} {g : Nat → Nat} {nm : Nat → Option Nat} {s : Sh} (w : World) (h : TrAt M L t m v g nm w) (hi : L[i]? = some s) (x : Int) :
    Calls Tryz.prog 175 #[.pointer (some ⟨t, 0, none⟩), .int .i64 ((i + 1 : Nat) : Int), .int .i64 x] w fun e w' => e = .returned (.int .i64 (slotS s.2 x)) ∧ Below w.heap.size w w' := by
  have H := hid h
  have HI := hid hi
  have hlt := hid (fun b hb => h.lt (b := b) hb)
  clear h hi
  generalize hid0 : ((i + 1 : Nat) : Int) = id
  have HE := hid hid0
  clear hid0
  refine (callsIn_wide (n := 6)).1 ?_
  refine callsIn_of_wp_marks Tryz.func175 rfl trivial ?_ rfl
  simp only [Tryz.ntmps175, List.size_toArray, List.length_cons, List.length_nil, Nat.reduceAdd, Nat.reduceSub, Array.replicate_succ, Array.replicate_zero, List.push_toArray, List.append_toArray, List.nil_append, List.cons_append]
  gi_wp2
  refine ⟨trivial, ?_⟩
  refine (callsIn_wide.2 (up_calls _ _ _)).mono ?_
  rintro e w' ⟨rfl, rfl⟩
  gi_wp2
  have b1 := Boxed.new w 228 (.pointer (some ⟨t, 0, none⟩))
  have b2 := Boxed.new (w.alloc (.cells #[.pointer (some ⟨t, 0, none⟩)] 228)) 3 (.int .i64 x)
  have b3 := Boxed.new ((w.alloc (.cells #[.pointer (some ⟨t, 0, none⟩)] 228)).alloc (.cells #[.int .i64 x] 3)) 3 (.int .i64 0)
  have b4 := Boxed.new (((w.alloc (.cells #[.pointer (some ⟨t, 0, none⟩)] 228)).alloc (.cells #[.int .i64 x] 3)).alloc (.cells #[.int .i64 0] 3)) 228 (.pointer (some ⟨t, 0, none⟩))
  have b5 := Boxed.new ((((w.alloc (.cells #[.pointer (some ⟨t, 0, none⟩)] 228)).alloc (.cells #[.int .i64 x] 3)).alloc (.cells #[.int .i64 0] 3)).alloc (.cells #[.pointer (some ⟨t, 0, none⟩)] 228)) 3 (.int .i64 id)
  simp only [World.size_alloc] at b2 b3 b4 b5
  have hB0 : Below w.heap.size w (((((w.alloc (.cells #[.pointer (some ⟨t, 0, none⟩)] 228)).alloc (.cells #[.int .i64 x] 3)).alloc (.cells #[.int .i64 0] 3)).alloc (.cells #[.pointer (some ⟨t, 0, none⟩)] 228)).alloc (.cells #[.int .i64 id] 3)) := (((((Below.refl _ w).alloc (Nat.le_refl _) _).alloc (by simp) _).alloc (by simp; omega) _).alloc (by simp; omega) _).alloc (by simp; omega) _
  refine wpIn_rangeFunc_ownG rfl (by omega) (gf := 180) (lb := #[.pointer (some ⟨w.heap.size + 1 + 1 + 1 + 1, 0, none⟩), .pointer (some ⟨w.heap.size + 1 + 1 + 1, 0, none⟩)]) rfl trivial (enters_of Tryz.func180 (by kernel_rfl) rfl)
    (up_stops 5 (w.heap.size + 1 + 1 + 1 + 1) (w.heap.size + 1 + 1 + 1) (fun b => b = w.heap.size + 1 + 1 ∨ w.heap.size + 1 + 1 + 1 + 1 + 1 ≤ b) HI.out _ (fun b hb => by have := hlt.out b hb; omega) (by omega) (by rw [HE.out]; exact b5) (b4.alloc _) (H.out.on hB0))
    keepX_t (keepX_b (fun b hb => .inr (by simpa using hb))) (Below.refl _ _) (fun _ => rfl)
    (fun pre W => ((((∀ y ∈ pre, y.1.2 ≠ x) ∧ Boxed W w.heap.size 228 (.pointer (some ⟨t, 0, none⟩))) ∧ Boxed W (w.heap.size + 1) 3 (.int .i64 x)) ∧ Boxed W (w.heap.size + 1 + 1) 3 (.int .i64 0)) ∧ Below w.heap.size w W)
    (fun c _ W => ((c = .ret) ∧ Boxed W (w.heap.size + 1 + 1) 3 (.int .i64 (slotS s.2 x))) ∧ Below w.heap.size w W)
    (OwnFrom.and (OwnFrom.and (OwnFrom.and (OwnFrom.and (ownFrom_pure _ (fun pre : List (Tld L s) => ∀ y ∈ pre, y.1.2 ≠ x)) (Own.from (boxed_own _ _ (fun _ : List (Tld L s) => Value.pointer (some ⟨t, 0, none⟩))) _)) (Own.from (boxed_own _ _ (fun _ : List (Tld L s) => Value.int .i64 x)) _)) (Own.from (boxed_own _ _ (fun _ : List (Tld L s) => Value.int .i64 0)) _)) (ownFrom_below (Nat.le_refl _) (by simp; omega)))
    (fun c => OwnFrom.and (OwnFrom.and (ownFrom_pure _ (fun _ : List (Tld L s) => c = Code.ret)) (Own.from (boxed_own _ _ (fun _ : List (Tld L s) => Value.int .i64 (slotS s.2 x))) _)) (ownFrom_below (Nat.le_refl _) (by simp; omega)))
    ⟨⟨⟨⟨by simp, (((b1.alloc _).alloc _).alloc _).alloc _⟩, ((b2.alloc _).alloc _).alloc _⟩, (b3.alloc _).alloc _⟩, hB0⟩
    (fun y => { tmps := #[.pointer (some ⟨t, 0, none⟩), .int .i64 id, .int .i64 x, .pointer (some ⟨w.heap.size, 0, none⟩), undef, .pointer (some ⟨w.heap.size + 1, 0, none⟩), .pointer (some ⟨w.heap.size + 1 + 1, 0, none⟩), .int .i64 y.1.1, .int .i64 y.1.2, .pointer (some ⟨t, 0, none⟩), .int .i64 id, .func (.func 180) #[] #[.pointer (some ⟨w.heap.size + 1 + 1 + 1 + 1, 0, none⟩), .pointer (some ⟨w.heap.size + 1 + 1 + 1, 0, none⟩)], .int .i64 y.1.1, .int .i64 y.1.2, undef, undef, undef, undef, undef, undef, undef], defers := [] }) ?assign ?body ?done ?stop
  case assign =>
    intro l x W K hK
    simp only [encU]
    gi_wp2_with (rw [Oper.semAt_eq _ _ _ (fun c h => by cases h)]; go_simp; try go_bits)
    exact hK
  case body =>
    rintro l pre y W ⟨⟨⟨⟨hp, ht⟩, hx⟩, hr⟩, hB⟩ hlen
    have c1 := ht.cell
    have c2 := hx.cell
    have c3 := hr.cell
    have c4 := hr.frozen
    obtain ⟨⟨y1, y2⟩, hym⟩ := y
    dsimp only
    by_cases hy : y2 = x
    · obtain ⟨k, j, h1, h2, h3⟩ := H.out.wf.told _ _ _ rfl HI.out _ hym
      have HS := hid (ssize_calls W (H.out.on hB) h3)
      dsimp only at h2
      rw [← h2] at HS
      have hk := lt_of_get h1
      have hf := H.out.wf.few _ _ HI.out
      dsimp only at h1 h2 h3
      have hsl := slotS_at (k := k) (x := x) (H.out.wf.names _ _ HI.out) (by rw [← hy]; exact h1)
      rw [show ((s.2.take (k + 1)).length : Int) = (k : Int) + 1 by rw [List.length_take]; omega] at HS
      have HSl := hid hsl
      clear hsl h1 h2 h3
      gi_wp2_with (rw [Oper.semAt_eq _ _ _ (fun c h => by cases h)]; go_simp; try go_bits)
      refine ⟨trivial, ?_⟩
      refine (CallsIn.inRound l (callsIn_wide.2 HS.out)).mono ?_
      rintro e1 w1 ⟨rfl, k1⟩
      have hr1 := boxed_on hr k1
      have c5 := hr1.cell
      have c6 := hr1.frozen
      have KB := hid k1
      clear k1
      gi_wp2_with (rw [Oper.semAt_eq _ _ _ (fun c h => by cases h)]; go_simp; try go_bits)
      refine ⟨(keepsFrom_below KB.out).trans ((KeepsOthers.setCell _ _ _).from _), ⟨rfl, ?_⟩, (below_in hB (Nat.le_refl _) KB.out).setCell (p := ⟨w.heap.size + 1 + 1, 0, none⟩) (by simp; omega) _⟩
      rw [HSl.out]
      exact hr1.set _
    · have hyb : (y2 == x) = false := by simpa using hy
      gi_wp2_with (rw [Oper.semAt_eq _ _ _ (fun c h => by cases h)]; go_simp; try go_bits)
      refine ⟨KeepsFrom.refl _ _, Keep.refl _ _, ⟨⟨⟨fun z hz => ?_, ht⟩, hx⟩, hr⟩, hB⟩
      rcases List.mem_append.1 hz with hz | hz
      · exact hp z hz
      · simp at hz
        subst hz
        exact hy
  case done =>
    rintro D ys W hD rfl ⟨⟨⟨⟨hp, ht⟩, hx⟩, hr⟩, hB⟩ hK
    have c3 := hr.cell
    have c4 := hr.frozen
    gi_wp2
    have hK' := (KeepsOthers.setCell W ⟨w.heap.size + 1 + 1, 0, none⟩ (.int .i64 (-1))).same D _ hK rfl
    have hB' := hB.setCell (p := ⟨w.heap.size + 1 + 1, 0, none⟩) (by simp; omega) (.int .i64 (-1))
    refine ⟨by simp, .inl ⟨_, _, rfl, run_takeDeferred hK', ?_⟩⟩
    have hc5 := cell_kept (hr.set (.int .i64 (-1))).cell (grownBy_putObj' _ D (.deferred none)) (fun r e => by cases e; exact ⟨_, hK', rfl⟩)
    refine ⟨.int .i64 (-1), ?_, ?_, hB'.trans (belowK_b (w := w) (Nat.le_refl _) _ D _ _ (by simp at hD; omega) hK' rfl rfl)⟩
    · simp [results, Tryz.f175, go_sem, hc5]
    · rw [slotS_none]
      intro hm
      have : x ∈ (upS L s).map (·.2) := by rw [upS_names]; simpa using hm
      obtain ⟨z, hz, hzx⟩ := List.mem_map.1 this
      exact hp ⟨z, hz⟩ (by simp) hzx
  case stop =>
    rintro D c pre W hD _ ⟨⟨rfl, hr⟩, hB⟩ hK
    gi_wp2
    refine ⟨by simp, .inl ⟨_, _, rfl, run_takeDeferred hK, ?_⟩⟩
    have hc5 := cell_kept hr.cell (grownBy_putObj' _ D (.deferred none)) (fun r e => by cases e; exact ⟨_, hK, rfl⟩)
    refine ⟨.int .i64 (slotS s.2 x), ?_, rfl, hB.trans (belowK_b (w := w) (Nat.le_refl _) _ D _ _ (by simp at hD; omega) hK rfl rfl)⟩
    simp [results, Tryz.f175, go_sem, hc5]

end Go.Proofs.YtimhgbcanmgajaaGreat
