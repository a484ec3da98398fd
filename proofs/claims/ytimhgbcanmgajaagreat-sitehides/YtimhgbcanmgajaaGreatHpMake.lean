/- Make, New. -/
import Derived.Test.YtimhgbcanmgajaaGreatJoint2
import Derived.Test.YtimhgbcanmgajaaGreatHpGrow
namespace Go.Proofs.YtimhgbcanmgajaaGreat
set_option linter.unusedSimpArgs false
set_option maxRecDepth 100000
open Go.RowKit

theorem slot0 (w : World) (c to : Nat) : SlAt c (to : Int) [] w.heap.size (.slice none 0 0) (w.alloc (Obj.cells #[.pointer (some ⟨c, 0, none⟩), .int .i64 (to : Int), .slice none 0 0] 164)) :=
  ⟨blk_new _ _ _, ⟨rfl, .inl ⟨rfl, rfl⟩⟩⟩
set_option maxHeartbeats 1000000 in
theorem cempty_calls {K : Nat} {H : He} {c n f t : Nat} {col : Nat → Nat} (w : World) (C : Cls H c n f col w) (hc : col c = 1) (ht : ∀ b, w.heap.size ≤ b → col b = 0) (h4 : 4 ≤ t) :
    Calls Tryz.prog 51 #[.pointer (some ⟨c, 0, none⟩)] w fun e w' => Turned K { H with L := rootL H.M H.L 0 } c n f t ⟨0, [], 0, rootN H.M H.L 0⟩ col w e w' := by
  obtain ⟨d0, d1, hcl⟩ := C.cells
  have HR := hid (froot_calls w C.fo 0 (by unfold I64; omega))
  have HC := hid C
  have hcc := hid hc
  have HT := hid ht
  clear C hc ht
  generalize rootN H.M H.L 0 = to at *
  go_enter Tryz.func51, Tryz.ntmps51
  go_wp2_with fail
  refine HR.out.mono ?_
  rintro e1 w1 ⟨rfl, h1, k1⟩
  have G1 := grew_ext k1
  have F1 := h1.mono (T := fun b => ext col w.heap.size w1.heap.size 3 b = 3) (fun b hb e => ext_new hb e)
  have N1 := (HC.out.nm.mono (T := fun b => ext col w.heap.size w1.heap.size 3 b = 2) (fun b hb e => (ext_old hb).trans e)).keep k1 (fun b hb e h => by rw [ext_old hb, h] at e; cases e)
  have n3 : ¬ col c = 3 := by rw [hcc.out]; decide
  have C1 := hid (show Cls { H with L := rootL H.M H.L 0 } c n f (ext col w.heap.size w1.heap.size 3) w1 from ⟨blk_keep HC.out.blk k1 n3, N1, F1⟩)
  have HG1 := hid (G1.mono (Q := fun u => u = 2 ∨ u = 3 ∨ u = t) (fun _ e => .inr (.inl e)))
  have hc1 : Hid (ext col w.heap.size w1.heap.size 3 c = 1) := hid ((G1.old c hcl).trans hcc.out)
  generalize ext col w.heap.size w1.heap.size 3 = col1 at *
  clear h1 k1 G1 F1 N1 HR n3 HC HT
  by_cases hto0 : to = 0
  · subst hto0
    go_wp2_with fail
    refine (new_calls w1).mono ?_
    rintro e2 w2 ⟨d, rfl, h2, b2⟩
    have a := (Below.refl w2.heap.size w2).alloc (Nat.le_refl _) (Obj.cells #[.int .i64 0, .pointer (some ⟨d, 0, none⟩)] 203)
    have R : Hid (Turned K { H with L := rootL H.M H.L 0 } c n f t ⟨0, [], 0, 0⟩ col w (.returned (.iface 199 (.pointer (some ⟨w2.heap.size, 0, none⟩)))) (w2.alloc (Obj.cells #[.int .i64 0, .pointer (some ⟨d, 0, none⟩)] 203))) := by
      have bb := below_on b2 a
      have g3 : Grew (fun u => u = t) col1 (ext col1 w1.heap.size (w2.alloc (Obj.cells #[.int .i64 0, .pointer (some ⟨d, 0, none⟩)] 203)).heap.size t) w1 (w2.alloc (Obj.cells #[.int .i64 0, .pointer (some ⟨d, 0, none⟩)] 203)) := grew_ext (Keep.of bb)
      have hz := b2.size
      refine hid ⟨w2.heap.size, _, rfl, C1.out.grew (by rw [hc1.out]; omega) g3 (by omega) (by omega), .inr ⟨rfl, 0, ⟨d, blk_new _ _ _, ?_, ext_new (by simp) (.inr hz)⟩, by omega⟩, HG1.out.trans (g3.mono (fun _ e => .inr (.inr e)))⟩
      exact ((h2.mono (T := fun b => w1.heap.size ≤ b ∧ b < w2.heap.size) (fun b hb h => ⟨h, hb⟩) (Nat.le_refl _)).on a).mono (fun b hb h => ⟨ext_new hb (.inr h.1), fun e => by omega⟩) (Nat.le_refl _)
    clear h2 b2 a
    go_wp2_with fail
    go_ret
    exact R.out
  · have hgt : 0 < to := by omega
    have a := (Below.refl w1.heap.size w1).alloc (Nat.le_refl _) (Obj.cells #[.pointer (some ⟨c, 0, none⟩), .int .i64 (to : Int), .slice none 0 0] 164)
    have R : Hid (Turned K { H with L := rootL H.M H.L 0 } c n f t ⟨0, [], 0, to⟩ col w (.returned (.iface 161 (.pointer (some ⟨w1.heap.size, 0, none⟩)))) (w1.alloc (Obj.cells #[.pointer (some ⟨c, 0, none⟩), .int .i64 (to : Int), .slice none 0 0] 164))) := by
      have g3 : Grew (fun u => u = t) col1 (ext col1 w1.heap.size (w1.alloc (Obj.cells #[.pointer (some ⟨c, 0, none⟩), .int .i64 (to : Int), .slice none 0 0] 164)).heap.size t) w1 (w1.alloc (Obj.cells #[.pointer (some ⟨c, 0, none⟩), .int .i64 (to : Int), .slice none 0 0] 164)) := grew_ext (Keep.of a)
      refine hid ⟨w1.heap.size, _, by simp [ivO, hto0], C1.out.grew (by rw [hc1.out]; omega) g3 (by omega) (by omega), .inl ⟨hto0, .slice none 0 0, slot0 w1 c to, ?_⟩, HG1.out.trans (g3.mono (fun _ e => .inr (.inr e)))⟩
      rintro b (rfl | hb)
      · exact ext_new (by simp) (.inr (Nat.le_refl _))
      · simp [Value.ownBlock] at hb
    clear a
    go_wp2_with fail
    go_ret
    exact R.out

def colN (a b c x : Nat) : Nat := if x < a then 0 else if x < b then 2 else if x < c then 3 else if x = c then 1 else 0
theorem newcl_calls (w : World) (k : Int) :
    Calls Tryz.prog 32 #[.int .i64 k] w fun e w' => ∃ c n f col, e = .returned (.pointer (some ⟨c, 0, none⟩)) ∧ Cls ⟨0, 0, mostS k, [], [], []⟩ c n f col w' ∧ Below w.heap.size w w' ∧ w.heap.size ≤ c ∧ col c = 1 ∧ (∀ b, b < w.heap.size → col b = 0) ∧ ∀ b, w'.heap.size ≤ b → col b = 0 := by
  go_enter Tryz.func32, Tryz.ntmps32
  go_wp2_with fail
  refine (tnew_calls w).mono ?_
  rintro e1 w1 ⟨n, rfl, h1, b1⟩
  have H1 := hid h1
  have B1 := hid b1
  clear h1 b1
  go_wp2_with fail
  refine (fnew_calls w1 k).mono ?_
  rintro e2 w2 ⟨f, rfl, h2, b2⟩
  have H2 := hid h2
  have B2 := hid b2
  clear h2 b2
  go_wp2_with fail
  go_ret
  have a := (Below.refl w2.heap.size w2).alloc (Nat.le_refl _) (Obj.cells #[.pointer (some ⟨n, 0, none⟩), .pointer (some ⟨f, 0, none⟩)] 175)
  have z1 := B1.out.size
  have z2 := B2.out.size
  refine ⟨w2.heap.size, n, f, colN w.heap.size w1.heap.size w2.heap.size, rfl, ⟨blk_new _ _ _, ?_, ?_⟩, below_in B1.out (Nat.le_refl _) (below_on B2.out a), by omega, ?_, ?_, ?_⟩
  · exact ((H1.out.mono (T := fun b => w.heap.size ≤ b ∧ b < w1.heap.size) (fun b hb h => ⟨h, hb⟩)).on (below_on B2.out a)).mono (fun b _ h => by unfold colN; rw [if_neg (by omega), if_pos h.2])
  · exact ((H2.out.mono (T := fun b => w1.heap.size ≤ b ∧ b < w2.heap.size) (fun b hb h => ⟨h, hb⟩)).on a).mono (fun b _ h => by unfold colN; rw [if_neg (by omega), if_neg (by omega), if_pos h.2])
  · unfold colN
    rw [if_neg (by omega), if_neg (by omega), if_neg (by omega), if_pos rfl]
  · intro b hb
    unfold colN
    rw [if_pos hb]
  · intro b hb
    have hb' : w2.heap.size + 1 ≤ b := by simpa using hb
    unfold colN
    rw [if_neg (by omega), if_neg (by omega), if_neg (by omega), if_neg (by omega)]

theorem new_wf (a b k : Int) : WfH 40 (newH a b k) := by
  refine ⟨wfS_nil (mostS_le k), List.nodup_nil, (by simp [newH]), (fun s h => by simp [newH] at h), (fun i s h => by simp [newH] at h), (by unfold newH; dsimp only; omega), (by unfold newH; dsimp only; omega), (by simp [newH]), (fun i x h => by simp [newH] at h), fun o => ⟨1, ?_⟩⟩
  show ((protoH (newH a b k) o : Nat) : Int) < 1
  rw [show protoH (newH a b k) o = 0 by unfold protoH; rw [getO_out (by unfold newH; simp; omega)]]
  omega
def col2N (col : Nat → Nat) (m b : Nat) : Nat := if b = m ∨ b = m + 1 then 1 else col b
theorem new_at {c n f : Nat} {col : Nat → Nat} (w1 : World) (la lb k : Int) (C : Cls ⟨0, 0, mostS k, [], [], []⟩ c n f col w1) (hc : col c = 1) (ht : ∀ b, w1.heap.size ≤ b → col b = 0) :
    HpAt 40 (newH la lb k) (w1.heap.size + 1) w1.heap.size c n f (.slice none 0 0) (fun _ => 0) (fun _ => 0) (col2N col w1.heap.size)
      ((w1.alloc (Obj.cells #[.int .i64 ((newH la lb k).most : Int), .int .i64 ((newH la lb k).props : Int), .pointer (some ⟨c, 0, none⟩), .slice none 0 0] 81)).alloc (Obj.cells #[.pointer (some ⟨w1.heap.size, 0, none⟩)] 83)) := by
  have a1 := (Below.refl w1.heap.size w1).alloc (Nat.le_refl _) (Obj.cells #[.int .i64 ((newH la lb k).most : Int), .int .i64 ((newH la lb k).props : Int), .pointer (some ⟨c, 0, none⟩), .slice none 0 0] 81)
  have a2 := a1.alloc (by simp) (Obj.cells #[.pointer (some ⟨w1.heap.size, 0, none⟩)] 83)
  have hcl := blk_lt C.blk
  have C2 := (C.mono (col' := col2N col w1.heap.size) (fun b hb => by unfold col2N; rw [if_neg (by omega)])).on a2
  have b2 := blk_new (w1.alloc (Obj.cells #[.int .i64 ((newH la lb k).most : Int), .int .i64 ((newH la lb k).props : Int), .pointer (some ⟨c, 0, none⟩), .slice none 0 0] 81)) 83 #[.pointer (some ⟨w1.heap.size, 0, none⟩)]
  simp only [World.size_alloc] at b2
  refine ⟨new_wf la lb k, b2, blk_on (blk_new _ _ _) ((Below.refl _ _).alloc (Nat.le_refl _) _), ⟨rfl, .inl ⟨rfl, rfl⟩⟩, ⟨C2.blk, C2.nm, C2.fo⟩, (fun i x h => by simp [newH] at h), (fun i j h => by simp [newH] at h), ⟨?_, ?_, ?_, fun b hb => by simp [Value.ownBlock] at hb⟩, fun b hb => ?_⟩
  · unfold col2N; rw [if_pos (.inr rfl)]
  · unfold col2N; rw [if_pos (.inl rfl)]
  · unfold col2N; rw [if_neg (by omega)]; exact hc
  · have hb' : w1.heap.size + 1 + 1 ≤ b := by simpa using hb
    unfold col2N
    rw [if_neg (by omega)]
    exact ht b (by omega)
/-- limits -/
def limV (a d b s : Int) : Value := .agg #[.int .i64 a, .int .i64 d, .int .i64 b, .int .i64 s]
set_option maxHeartbeats 1000000 in
theorem hnew_calls (w : World) (la ld lb ls k : Int) :
    Calls Tryz.prog 7 #[limV la ld lb ls, .int .i64 k] w fun e w' => ∃ h, e = .returned (.pointer (some ⟨h, 0, none⟩)) ∧ HpS (fun x => w.heap.size ≤ x) 40 h (newH la lb k) w' ∧ Below w.heap.size w w' := by
  have A := ((Below.refl w.heap.size w).alloc (Nat.le_refl _) (Obj.cells #[.int .i64 la, .int .i64 ld, .int .i64 lb, .int .i64 ls] 24)).drew
  have HC := hid (newcl_calls (w.alloc (Obj.cells #[.int .i64 la, .int .i64 ld, .int .i64 lb, .int .i64 ls] 24)).drew k)
  have HA := hid A
  have hA : (if 200 < if la < 0 then 0 else la then 200 else if la < 0 then 0 else la) = ((newH la lb k).most : Int) := by unfold newH; dsimp only; split <;> split <;> omega
  have hB : (if 32 < if lb < 0 then 0 else lb then 32 else if lb < 0 then 0 else lb) = ((newH la lb k).props : Int) := by unfold newH; dsimp only; split <;> split <;> omega
  obtain ⟨m7, h7⟩ : ∃ m, (if la < 0 then 0 else la) = m := ⟨_, rfl⟩
  obtain ⟨m8, h8⟩ : ∃ m, (if lb < 0 then 0 else lb) = m := ⟨_, rfl⟩
  rw [h7] at hA
  rw [h8] at hB
  clear A
  unfold limV
  go_enter Tryz.func7, Tryz.ntmps7
  go_wp2_with fail
  refine wp_region_held_drew (S := fun a => a.cell? ⟨w.heap.size, 0, none⟩ = some (.int .i64 la) ∧ a.cell? ⟨w.heap.size, 2, none⟩ = some (.int .i64 lb)) (by kernel_rfl) ?_ (fun hHeld => ?_)
  · (refine ⟨?_, ?_⟩ <;> go_simp)
  refine tkk 0 ?_
  refine tkk 1 ?_
  refine tkk 2 ?_
  refine tkk 3 ?_
  refine tkk 4 ?_
  refine tkk 5 ?_
  refine tkk 6 ?_
  refine tkk 7 ?_
  refine tkk 8 ?_
  refine rdy 9 (fun K hK => ?_)
  go_simp
  refine HC.out.mono ?_
  rintro e1 w1 ⟨c, n, f, col, rfl, C, b1, hc, hc1, hlo, htop⟩
  have wl : w.heap.size < (w.alloc (Obj.cells #[.int .i64 la, .int .i64 ld, .int .i64 lb, .int .i64 ls] 24)).drew.heap.size := by simp
  have z0 := hcell_on (c := w1) (a := (w.alloc (Obj.cells #[.int .i64 la, .int .i64 ld, .int .i64 lb, .int .i64 ls] 24)).drew) (g := w.heap.size) (i := 0) (v := .int .i64 la) (by simp) wl b1
  have z1 := hcell_on (c := w1) (a := (w.alloc (Obj.cells #[.int .i64 la, .int .i64 ld, .int .i64 lb, .int .i64 ls] 24)).drew) (g := w.heap.size) (i := 2) (v := .int .i64 lb) (by simp) wl b1
  have B1 := hid (below_on HA.out b1)
  have hwl1 := Nat.lt_of_lt_of_le wl b1.size
  have R := hid (new_at w1 la lb k C hc1 htop)
  have HL := hid hlo
  have hne : w.heap.size ≠ w1.heap.size := by omega
  have hne1 : w.heap.size ≠ w1.heap.size + 1 := by omega
  clear C b1 HC hc hc1 hlo htop HA
  go_simp
  refine hK.out _ _ ?_ (fun _ => ?_)
  · (refine ⟨?_, ?_⟩ <;> (first | assumption | go_simp))
  clear hK K
  refine tkk 10 ?_
  refine rdy 11 (fun K hK => ?_)
  go_simp
  refine hK.out _ _ ?_ (fun _ => ?_)
  · (refine ⟨?_, ?_⟩ <;> (first | assumption | go_simp))
  clear hK K
  refine tkk 12 ?_
  refine rdy 13 (fun K hK => ?_)
  go_simp
  refine hK.out _ _ ?_ (fun _ => ?_)
  · (refine ⟨?_, ?_⟩ <;> (first | assumption | go_simp))
  clear hK K
  refine tkk 14 ?_
  refine wpAnyH_done (by kernel_rfl) ?_ _
  go_wp2_with fail
  go_ret
  have hz := B1.out.size
  refine ⟨_, rfl, ⟨_, c, n, f, _, _, _, _, R.out, fun b hb => ?_⟩, below_in B1.out (Nat.le_refl _) (((Below.refl w1.heap.size w1).alloc (Nat.le_refl _) _).alloc (by simp) _)⟩
  unfold col2N at hb
  split at hb
  · rename_i e
    rcases e with e | e <;> omega
  · exact Nat.le_of_not_lt (fun h => hb (HL.out b (by simp; omega)))

end Go.Proofs.YtimhgbcanmgajaaGreat
