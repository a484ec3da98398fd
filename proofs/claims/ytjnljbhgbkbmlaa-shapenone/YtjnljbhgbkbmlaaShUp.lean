/- From a shape up through its parents: the iterator. -/
import Derived.Test.YtjnljbhgbkbmlaaShMem
import Derived.RangeFuncNested
import Derived.RangeFuncBound
import Derived.RangeFuncCalls
import Derived.RangeFuncLeaves
import Derived.RangeFuncBox
import Derived.Shelf.Abstract
import Derived.Shelf.RegionOpen
import Derived.WalkKit
import Derived.OwnWalkIn
import Derived.TacticsInMore
import Derived.LoopNIn
import Derived.LoopIn
import Derived.Deep.RegionHeld3
namespace Go.Proofs.Ytjnljbhgbkbmlaa
set_option linter.unusedSimpArgs false
open Go.RowKit Go.Shelf

/-- what is told of a shape, each with what is known of it -/
abbrev Tld (L : List Sh) (s : Sh) := { y : Int × Int // y ∈ upS L s }
abbrev encU {L : List Sh} {s : Sh} (y : Tld L s) : Array Value := #[.int .i64 y.1.1, .int .i64 y.1.2]

theorem vals_inj {α : Type} {p : α → Prop} : ∀ {a b : List { y : α // p y }}, a.map (·.1) = b.map (·.1) → a = b
  | [], [], _ => rfl
  | [], _ :: _, h => by simp at h
  | _ :: _, [], h => by simp at h
  | x :: a, y :: b, h => by
    simp only [List.map_cons, List.cons.injEq] at h
    rw [Subtype.ext h.1, vals_inj h.2]
theorem vals_all {α : Type} {l : List α} {a : List { y : α // y ∈ l }} (h : a.map (·.1) = l) : a = l.attach := vals_inj (by rw [h]; simp)
theorem vals_part {α : Type} {l r : List α} {a : List { y : α // y ∈ l }} (h : l = a.map (·.1) ++ r) : a <+: l.attach := by
  have hr : ∀ (r' : List α), (∀ y ∈ r', y ∈ l) → ∃ b : List { y : α // y ∈ l }, b.map (·.1) = r' := by
    intro r'
    induction r' with
    | nil => intro _; exact ⟨[], rfl⟩
    | cons y r' ih =>
      intro hy
      obtain ⟨b, hb⟩ := ih (fun z hz => hy z (by simp [hz]))
      exact ⟨⟨y, hy y (by simp)⟩ :: b, by simp [hb]⟩
  obtain ⟨b, hb⟩ := hr r (fun y hy => by rw [h]; simp [hy])
  exact ⟨b, vals_all (by rw [List.map_append, hb]; exact h.symm)⟩

set_option maxRecDepth 100000 in
set_option maxHeartbeats 1000000 in
theorem up1_in {M : Nat} {L : List Sh} {t m i0 : Nat} {v : Value} {g : Nat → Nat} {nm : Nat → Option Nat} {s0 : Sh} (n l Bi Bt : Nat) (X : Nat → Prop) (hi0 : L[i0]? = some s0) (J Jx : List (Tld L s0) → World → Prop)
    (hY : ∀ pre x W, J pre W → pre.length < (upS L s0).length → YieldAt Fence.wide (n - 1) Try.prog l (encU x) W fun e W' =>
      (e = .returned (.bool true) ∧ J (pre ++ [x]) W' ∧ Keep X W W') ∨ (e = .returned (.bool false) ∧ Jx (pre ++ [x]) W'))
    (hX : ∀ b, FtS L.length t m v g nm b → ¬ X b) (hXt : ¬ X Bt)
    (hJd : ∀ pre W, J pre W → J pre W.drew) (W : World) (hBi : Blk Bi 3 #[.int .i64 ((i0 + 1 : Nat) : Int)] W) (hBt : Blk Bt 45 #[.pointer (some ⟨t, 0, none⟩)] W) (hT : TrAt M L t m v g nm W) (h0 : J [] W) :
    CallsIn Fence.wide n Try.prog 47 #[.func (.yield l) #[] #[], .pointer (some ⟨Bi, 0, none⟩), .pointer (some ⟨Bt, 0, none⟩)] W fun e W' => (∃ v, e = .returned v) ∧
      ((∃ ys, ys = (upS L s0).attach ∧ J ys W') ∨ (∃ pre, pre <+: (upS L s0).attach ∧ Jx pre W')) := by
  have c1 : W.cell? ⟨Bi, 0, none⟩ = some (.int .i64 ((i0 + 1 : Nat) : Int)) := by rw [blk_cell hBi]; rfl
  have c2 : W.cell? ⟨Bt, 0, none⟩ = some (.pointer (some ⟨t, 0, none⟩)) := by rw [blk_cell hBt]; rfl
  have HT := hid hT
  have HB := hid hBt
  have hl0 := lt_of_get hi0
  clear hT hBt hBi
  refine callsIn_of_wp Try.func47 rfl trivial ?_ rfl
  simp only [Try.ntmps47, List.size_toArray, List.length_cons, List.length_nil, Nat.reduceAdd, Nat.reduceSub, Array.replicate_succ, Array.replicate_zero, List.push_toArray, List.append_toArray, List.nil_append, List.cons_append]
  gi_wp2
  refine wpIn_wide.2 ?_
  refine wp_region_held_drew (S := fun a => a.cell? ⟨Bi, 0, none⟩ = some (.int .i64 ((i0 + 1 : Nat) : Int)) ∧ a.cell? ⟨Bt, 0, none⟩ = some (.pointer (some ⟨t, 0, none⟩))) (by kernel_rfl) ⟨c1, c2⟩ (fun hHeld => ?_)
  refine wpAnyH_take (i := 0) (v := ?v1) rfl (by kernel_rfl) (by kernel_rfl) (by kernel_rfl) (fun _ _ _ h => h) (Or.inl ⟨by rfl, ?hy1⟩) (by assumption) ?_
  case hy1 => (intro w hSw; go_simp <;> (try with_reducible rfl))
  simp only [Act.put, List.setIfInBounds_toArray, List.set_cons_zero, List.set_cons_succ, List.getElem_toArray, List.getElem_cons_succ, List.getElem_cons_zero]
  refine wpAnyH_take (i := 1) (v := ?v2) rfl (by kernel_rfl) (by kernel_rfl) (by kernel_rfl) (fun _ _ _ h => h) (Or.inl ⟨by rfl, ?hy2⟩) (by assumption) ?_
  case hy2 => (intro w hSw; go_simp <;> (try with_reducible rfl))
  simp only [Act.put, List.setIfInBounds_toArray, List.set_cons_zero, List.set_cons_succ, List.getElem_toArray, List.getElem_cons_succ, List.getElem_cons_zero]
  refine wpAnyH_take (i := 2) (v := ?v3) rfl (by kernel_rfl) (by kernel_rfl) (by kernel_rfl) (fun _ _ _ h => h) (Or.inl ⟨by rfl, ?hy3⟩) (by assumption) ?_
  case hy3 => (intro w hSw; go_simp <;> (try with_reducible rfl))
  simp only [Act.put, List.setIfInBounds_toArray, List.set_cons_zero, List.set_cons_succ, List.getElem_toArray, List.getElem_cons_succ, List.getElem_cons_zero]
  refine wpAnyH_ready (rs := [3]) (by kernel_rfl) (by simp) ?_
  refine AllReadyH.cons rfl (fun K hK => ?_) AllReadyH.nil
  go_simp
  refine (at_calls _ (HT.out.on (Below.refl _ _).drew) hl0).mono ?_
  rintro e1 w1 ⟨rfl, rfl⟩
  go_simp
  refine hK.out _ _ ⟨c1, c2⟩ (fun _ => ?_)
  clear hK K
  refine wpAnyH_take (i := 4) (v := ?v5) rfl (by kernel_rfl) (by kernel_rfl) (by kernel_rfl) (fun _ _ _ h => h) (Or.inl ⟨by rfl, ?hy5⟩) (by assumption) ?_
  case hy5 => (intro w hSw; go_simp <;> (try with_reducible rfl))
  simp only [Act.put, List.setIfInBounds_toArray, List.set_cons_zero, List.set_cons_succ, List.getElem_toArray, List.getElem_cons_succ, List.getElem_cons_zero]
  refine wpAnyH_take (i := 5) (v := ?v6) rfl (by kernel_rfl) (by kernel_rfl) (by kernel_rfl) (fun _ _ _ h => h) (Or.inl ⟨by rfl, ?hy6⟩) (by assumption) ?_
  case hy6 => (intro w hSw; go_simp <;> (try with_reducible rfl))
  simp only [Act.put, List.setIfInBounds_toArray, List.set_cons_zero, List.set_cons_succ, List.getElem_toArray, List.getElem_cons_succ, List.getElem_cons_zero]
  refine wpAnyH_done (by kernel_rfl) ?_ _
  have HX := hid hX
  have HD := hid hJd
  have HW2 := hid (HT.out.on (Below.refl _ W).drew)
  have HB2 := hid (blk_on HB.out (Below.refl _ W).drew)
  have h02 := hJd _ _ h0
  clear hX hJd h0 hHeld c1 c2 HT HB
  gi_wp2
  gi_loopw [4, 5] (fun a sp wr => ∃ (pre : List (Tld L s0)) (i : Nat) (s : Sh), L[i]? = some s ∧ a = .int .i64 ((i + 1 : Nat) : Int) ∧ sp = .pointer (some ⟨g i, 0, none⟩) ∧ Hid (upS L s0 = pre.map (·.1) ++ upS L s) ∧ Hid (TrAt M L t m v g nm wr) ∧ Hid (Blk Bt 45 #[.pointer (some ⟨t, 0, none⟩)] wr) ∧ J pre wr)
    (fun a _ _ => (intOf a).toNat)
  case atStart => exact ⟨[], i0, s0, hi0, rfl, rfl, hid rfl, HW2, HB2, h02⟩
  case round =>
    obtain ⟨pre, i, ⟨p, ns⟩, hi, rfl, rfl, hE, hT, hB, hJ⟩ := hrel
    have ho := hT.out.one i _ hi
    obtain ⟨q1, q2, q3, q4⟩ := ho.cells
    have hgl := blk_lt ho.blk
    rcases List.eq_nil_or_concat ns with rfl | ⟨ns', x, rfl⟩
    · rw [parS_root] at q2
      clear ho
      gi_wp2
      go_end0
      refine ⟨⟨_, rfl⟩, .inl ?_⟩
      have hp : pre = (upS L s0).attach := vals_all (by have := hE.out; rw [upS_root] at this; simpa using this.symm)
      rw [hp] at hJ
      first | exact hJ | exact ⟨_, rfl, hJ⟩
    · rw [List.concat_eq_append] at *
      obtain ⟨j, hj, hg, hpar⟩ := hT.out.wf.par hi
      rw [hpar] at q2
      rw [lastS_snoc] at q3
      have hnum : numS L (p, ns' ++ [x]) = i + 1 := by unfold numS; rw [hT.out.wf.at' hi]
      have hE' := hE.out
      rw [upS_snoc, hnum] at hE'
      have hlen : pre.length < (upS L s0).length := by rw [hE']; simp
      obtain ⟨y, hy1⟩ : ∃ y : Tld L s0, y.1 = (((i + 1 : Nat) : Int), x) := ⟨⟨_, by rw [hE']; simp⟩, rfl⟩
      obtain ⟨fn, tmps, assign, body, hy, hR⟩ := hY pre y _ hJ hlen
      dsimp only [encU] at hy
      rw [hy1] at hy
      dsimp only at hy
      rw [show ((i + 1 : Nat) : Int) = (i : Int) + 1 from by omega] at hy
      have HY1 := hid hy1
      clear hy1
      have HE := hid hE'
      have HG := hid ho
      have hjl := lt_of_get hg
      have HP := hid hpar
      clear ho hE hE' hnum hpar
      gi_wp2
      refine ⟨fun h => absurd h (by decide), hR.mono ?_⟩
      rintro e W3 (⟨rfl, hJ3, hk3⟩ | ⟨rfl, hJx3⟩)
      · have hT3 := hid (hT.out.keep (c := W3) (fun b hb => hk3.block b (hT.out.lt hb) (HX.out b hb)))
        have hB3 := hid (blk_keep hB.out hk3 hXt)
        have r1 : W3.cell? ⟨Bt, 0, none⟩ = some (.pointer (some ⟨t, 0, none⟩)) := by rw [blk_cell hB3.out]; rfl
        have r2 : W3.cell? ⟨g i, 1, none⟩ = some (.int .i64 ((j + 1 : Nat) : Int)) := by
          have := (hT3.out.one i _ hi).cells.2.1
          rw [HP.out] at this
          exact this
        have hgl3 := Nat.lt_of_lt_of_le hgl hk3.size
        clear hk3 hT hB q1 q2 q3 q4 HG
        gi_wp2
        refine wpIn_wide.2 ?_
        refine wp_region_held_drew (S := fun a => a.cell? ⟨g i, 1, none⟩ = some (.int .i64 ((j + 1 : Nat) : Int)) ∧ a.cell? ⟨Bt, 0, none⟩ = some (.pointer (some ⟨t, 0, none⟩))) (by kernel_rfl) ⟨r2, r1⟩ (fun hHeld => ?_)
        refine wpAnyH_take (i := 0) (v := ?v7) rfl (by kernel_rfl) (by kernel_rfl) (by kernel_rfl) (fun _ _ _ h => h) (Or.inl ⟨by rfl, ?hy7⟩) (by assumption) ?_
        case hy7 => (intro w hSw; go_simp <;> (try with_reducible rfl))
        simp only [Act.put, List.setIfInBounds_toArray, List.set_cons_zero, List.set_cons_succ, List.getElem_toArray, List.getElem_cons_succ, List.getElem_cons_zero]
        refine wpAnyH_take (i := 1) (v := ?v8) rfl (by kernel_rfl) (by kernel_rfl) (by kernel_rfl) (fun _ _ _ h => h) (Or.inl ⟨by rfl, ?hy8⟩) (by assumption) ?_
        case hy8 => (intro w hSw; go_simp <;> (try with_reducible rfl))
        simp only [Act.put, List.setIfInBounds_toArray, List.set_cons_zero, List.set_cons_succ, List.getElem_toArray, List.getElem_cons_succ, List.getElem_cons_zero]
        refine wpAnyH_take (i := 2) (v := ?v9) rfl (by kernel_rfl) (by kernel_rfl) (by kernel_rfl) (fun _ _ _ h => h) (Or.inl ⟨by rfl, ?hy9⟩) (by assumption) ?_
        case hy9 => (intro w hSw; go_simp <;> (try with_reducible rfl))
        simp only [Act.put, List.setIfInBounds_toArray, List.set_cons_zero, List.set_cons_succ, List.getElem_toArray, List.getElem_cons_succ, List.getElem_cons_zero]
        refine wpAnyH_take (i := 3) (v := ?v10) rfl (by kernel_rfl) (by kernel_rfl) (by kernel_rfl) (fun _ _ _ h => h) (Or.inl ⟨by rfl, ?hy10⟩) (by assumption) ?_
        case hy10 => (intro w hSw; go_simp <;> (try with_reducible rfl))
        simp only [Act.put, List.setIfInBounds_toArray, List.set_cons_zero, List.set_cons_succ, List.getElem_toArray, List.getElem_cons_succ, List.getElem_cons_zero]
        refine wpAnyH_take (i := 4) (v := ?v11) rfl (by kernel_rfl) (by kernel_rfl) (by kernel_rfl) (fun _ _ _ h => h) (Or.inl ⟨by rfl, ?hy11⟩) (by assumption) ?_
        case hy11 => (intro w hSw; go_simp <;> (try with_reducible rfl))
        simp only [Act.put, List.setIfInBounds_toArray, List.set_cons_zero, List.set_cons_succ, List.getElem_toArray, List.getElem_cons_succ, List.getElem_cons_zero]
        refine wpAnyH_take (i := 5) (v := ?v12) rfl (by kernel_rfl) (by kernel_rfl) (by kernel_rfl) (fun _ _ _ h => h) (Or.inl ⟨by rfl, ?hy12⟩) (by assumption) ?_
        case hy12 => (intro w hSw; go_simp <;> (try with_reducible rfl))
        simp only [Act.put, List.setIfInBounds_toArray, List.set_cons_zero, List.set_cons_succ, List.getElem_toArray, List.getElem_cons_succ, List.getElem_cons_zero]
        refine wpAnyH_take (i := 6) (v := ?v13) rfl (by kernel_rfl) (by kernel_rfl) (by kernel_rfl) (fun _ _ _ h => h) (Or.inl ⟨by rfl, ?hy13⟩) (by assumption) ?_
        case hy13 => (intro w hSw; go_simp <;> (try with_reducible rfl))
        simp only [Act.put, List.setIfInBounds_toArray, List.set_cons_zero, List.set_cons_succ, List.getElem_toArray, List.getElem_cons_succ, List.getElem_cons_zero]
        refine wpAnyH_take (i := 7) (v := ?v14) rfl (by kernel_rfl) (by kernel_rfl) (by kernel_rfl) (fun _ _ _ h => h) (Or.inl ⟨by rfl, ?hy14⟩) (by assumption) ?_
        case hy14 => (intro w hSw; go_simp <;> (try with_reducible rfl))
        simp only [Act.put, List.setIfInBounds_toArray, List.set_cons_zero, List.set_cons_succ, List.getElem_toArray, List.getElem_cons_succ, List.getElem_cons_zero]
        refine wpAnyH_take (i := 8) (v := ?v15) rfl (by kernel_rfl) (by kernel_rfl) (by kernel_rfl) (fun _ _ _ h => h) (Or.inl ⟨by rfl, ?hy15⟩) (by assumption) ?_
        case hy15 => (intro w hSw; go_simp <;> (try with_reducible rfl))
        simp only [Act.put, List.setIfInBounds_toArray, List.set_cons_zero, List.set_cons_succ, List.getElem_toArray, List.getElem_cons_succ, List.getElem_cons_zero]
        refine wpAnyH_ready (rs := [9]) (by kernel_rfl) (by simp) ?_
        refine AllReadyH.cons rfl (fun K hK => ?_) AllReadyH.nil
        go_simp
        refine (at_calls _ (hT3.out.on (Below.refl _ _).drew) hjl).mono ?_
        rintro e1 w1 ⟨rfl, rfl⟩
        go_simp
        refine hK.out _ _ ⟨r2, r1⟩ (fun _ => ?_)
        clear hK K
        refine wpAnyH_take (i := 10) (v := ?v17) rfl (by kernel_rfl) (by kernel_rfl) (by kernel_rfl) (fun _ _ _ h => h) (Or.inl ⟨by rfl, ?hy17⟩) (by assumption) ?_
        case hy17 => (intro w hSw; go_simp <;> (try with_reducible rfl))
        simp only [Act.put, List.setIfInBounds_toArray, List.set_cons_zero, List.set_cons_succ, List.getElem_toArray, List.getElem_cons_succ, List.getElem_cons_zero]
        refine wpAnyH_take (i := 11) (v := ?v18) rfl (by kernel_rfl) (by kernel_rfl) (by kernel_rfl) (fun _ _ _ h => h) (Or.inl ⟨by rfl, ?hy18⟩) (by assumption) ?_
        case hy18 => (intro w hSw; go_simp <;> (try with_reducible rfl))
        simp only [Act.put, List.setIfInBounds_toArray, List.set_cons_zero, List.set_cons_succ, List.getElem_toArray, List.getElem_cons_succ, List.getElem_cons_zero]
        refine wpAnyH_done (by kernel_rfl) ?_ _
        gi_wp2
        go_roundw
        case rel =>
          refine ⟨pre ++ [y], j, (p, ns'), hg, rfl, rfl, hid ?_, hid (hT3.out.on (Below.refl _ _).drew), hid (blk_on hB3.out (Below.refl _ _).drew), HD.out _ _ hJ3⟩
          refine HE.out.trans ?_
          simp [HY1.out]
        case measure => simp [intOf]; omega
      · gi_wp2
        refine bodyPost_ret (results_none rfl _ _ _) rfl ?_
        refine ⟨⟨_, rfl⟩, .inr ⟨_, vals_part (r := upS L (p, ns')) ?_, hJx3⟩⟩
        refine HE.out.trans ?_
        simp [HY1.out]

theorem up_stops {M : Nat} {L : List Sh} {t m i0 : Nat} {v : Value} {g : Nat → Nat} {nm : Nat → Option Nat} {s0 : Sh} (n Bi Bt : Nat) (X : Nat → Prop) (hi0 : L[i0]? = some s0) (w : World)
    (hX : ∀ b, FtS L.length t m v g nm b → ¬ X b) (hXt : ¬ X Bt) (hBi : Blk Bi 3 #[.int .i64 ((i0 + 1 : Nat) : Int)] w) (hBt : Blk Bt 45 #[.pointer (some ⟨t, 0, none⟩)] w) (hT : TrAt M L t m v g nm w) :
    SeqStopsK Fence.wide n Try.prog 47 #[.pointer (some ⟨Bi, 0, none⟩), .pointer (some ⟨Bt, 0, none⟩)] (encU (L := L) (s := s0)) (Keep X) (fun ys => ys = (upS L s0).attach) (fun pre => pre <+: (upS L s0).attach) (upS L s0).length w := fun l J Jx W hW hJ _ hY h0 =>
  up1_in n l Bi Bt X hi0 J Jx hY hX hXt (fun pre W' h => hJ pre W' _ none h ⟨rfl, rfl, rfl, Nat.le_refl _, fun _ _ _ => rfl⟩ (fun r e => by cases e)) W (blk_on hBi hW) (blk_on hBt hW) (hT.on hW) h0

end Go.Proofs.Ytjnljbhgbkbmlaa
