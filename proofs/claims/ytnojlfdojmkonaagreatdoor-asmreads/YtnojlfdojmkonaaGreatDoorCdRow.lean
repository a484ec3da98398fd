/- Rows of numbers of one's own, and a scope that is jumped back in. -/
import Derived.Test.YtnojlfdojmkonaaGreatDoorJoint7
import Derived.Test.YtnojlfdojmkonaaGreatDoorJoint5
import Derived.Deep.OwnRows
import Derived.ScopeJumps
import Derived.WalkMore
namespace Go.Proofs.YtnojlfdojmkonaaGreatDoor
set_option linter.unusedSimpArgs false
open Go.RowKit

theorem elInt : Elem 69 3 1 8 := elem_of (z0 := .int .i64 0) (by kernel_rfl) (by kernel_rfl) rfl
theorem infoInt : ∃ i0, Tryz.prog.info? 3 = some i0 ∧ i0.zero = some (.int .i64 0) ∧ i0.size = 1 ∧ i0.bytes = 8 :=
  info_parts (show (Tryz.prog.info? 3).map (fun i => (i.zero, i.size, i.bytes)) = some (some (.int .i64 0), 1, 8) by kernel_rfl)
theorem underInts : Tryz.prog.underlying 69 = some (.slice 3) := by kernel_rfl
theorem least {p : Nat → Prop} (h : ∃ n, p n) : ∃ n, p n ∧ ∀ m, p m → n ≤ m := by
  refine Classical.byContradiction fun hc => ?_
  have key : ∀ n, ∀ m, m < n → ¬ p m := by
    intro n
    induction n with
    | zero => intro m hm; omega
    | succ n ih =>
      intro m hm hp
      exact hc ⟨m, hp, fun k hk => by
        rcases Nat.lt_or_ge k m with h1 | h1
        · exact absurd hk (ih k (by omega))
        · exact h1⟩
  obtain ⟨n, hn⟩ := h
  exact key (n + 1) n (by omega) hn
theorem lowest_ex : ∃ f : (Nat → Prop) → Nat, ∀ (p : Nat → Prop) n, p n → p (f p) ∧ f p ≤ n := by
  have h : ∀ p : Nat → Prop, ∃ m : Nat, ∀ n, p n → p m ∧ m ≤ n := fun p => by
    by_cases h : ∃ n, p n
    · obtain ⟨m, h1, h2⟩ := least h
      exact ⟨m, fun n hn => ⟨h1, h2 n hn⟩⟩
    · exact ⟨0, fun n hn => absurd ⟨n, hn⟩ h⟩
  exact ⟨fun p => Classical.choose (h p), fun p => Classical.choose_spec (h p)⟩
/-- a scope in which the run jumps back to one label: what holds there, with a number that goes down -/
theorem wp_scope_pass {P : Program} {a : Act} {w : World} {Q : Exit → Act → World → Prop} {c rest : Code} (l : Nat) (J : Nat → Act → World → Prop) (hf : findLabel c l = some (Code.skip.seq rest))
    (pass : ∀ n a w, J n a w → ∀ J' : Act → World → Prop, (∀ m a' w', m < n → J m a' w' → J' a' w') → rest.wp P (Exit.jump l J' Q) a w)
    (first : (∀ n a w, J n a w → rest.wp P (Exit.jump l (fun a w => ∃ n, J n a w) Q) a w) → c.wp P (Exit.jump l (fun a w => ∃ n, J n a w) Q) a w) : (Code.scope c).wp P Q a w := by
  obtain ⟨f, hF⟩ := lowest_ex
  refine wp_scope_jumps l (fun a w => ∃ n, J n a w) (fun a w => f (fun n => J n a w)) hf (first fun n a w h => pass n a w h _ fun m a' w' _ hm => ⟨m, hm⟩) fun a w h => wp_seq (wp_skip ?_)
  obtain ⟨n, hn⟩ := h
  exact pass _ a w (hF (fun n => J n a w) n hn).1 _ fun m a' w' hm hJ => ⟨⟨m, hJ⟩, Nat.lt_of_le_of_lt (hF (fun n => J n a' w') m hJ).2 hm⟩
theorem made_ints (n : Nat) : madeCells #[Value.int .i64 0] n = ((List.replicate n 0).map (Value.int .i64)).toArray := by
  apply Array.ext
  · simp [size_madeCells]
  · intro i h1 h2
    simp [madeCells, Nat.mod_one]
theorem ir_cell {g j : Nat} {F : List Int} {x : Int} {w : World} (h : IntsR g F w) (hj : F[j]? = some x) : w.cell? ⟨g, j, none⟩ = some (.int .i64 x) := by
  rw [blk_cell h]
  simp [hj]
theorem ir_free {g : Nat} {F : List Int} {w : World} (h : IntsR g F w) (j : Nat) : w.frozen? ⟨g, j, none⟩ = false := blk_free h j
theorem ir_set {g : Nat} {F : List Int} {w : World} (h : IntsR g F w) (j : Nat) (e : Int) : IntsR g (F.set j e) (w.setCell ⟨g, j, none⟩ (.int .i64 e)) := by
  have := blk_set h j (.int .i64 e)
  unfold IntsR
  rw [List.map_set]
  simpa using this
theorem blk_setO {g b i : Nat} {T : TypeId} {cs : Array Value} {v : Value} {w : World} (h : Blk g T cs w) (hn : b ≠ g) : Blk g T cs (w.setCell ⟨b, i, none⟩ v) :=
  (Below.heap_setCell _ _ _ _ (fun e => hn (by simpa using e.symm))).trans h
theorem row_cut {g m cap : Nat} {T : TypeId} {xs : List Value} {x : Value} {w : World} (h : w.ownsRow 0 T 1 (.slice (some ⟨g, 0, none⟩) (m + 1) cap) (m + 1) (xs ++ [x])) : w.ownsRow 0 T 1 (.slice (some ⟨g, 0, none⟩) m cap) m xs := by
  have hl := h.1
  rw [List.length_append] at hl
  simp at hl
  refine ⟨by omega, ?_⟩
  rcases h.2 with ⟨h1, _⟩ | ⟨g', cap', cur, h1, h2, h3, h4, h5, h6, h7⟩
  · cases h1
  · injection h1 with e1 e2 e3
    injection e1 with e1
    injection e1 with e1
    subst e1 e3
    refine .inr ⟨g, cap, cur, rfl, h2, h3, by omega, h5, h6, ?_⟩
    have := congrArg (List.take m) h7
    rw [List.take_take] at this
    simp only [Nat.mul_one] at *
    rw [Nat.min_eq_left (by omega)] at this
    rw [this, List.take_append_of_le_length (by omega), List.take_of_length_le (by omega)]
/-- what a depths' call holds: the code's box, the depths found, what is still to do -/
structure DS (w0 : World) (g : Nat) (cs : Array Value) (F T : List Int) (tv : Value) (w : World) : Prop where
  box : Blk g 45 cs w
  fnd : IntsR (g + 1) F w
  row : w.ownsRow 0 3 1 tv T.length (T.map (Value.int .i64))
  apart : ∀ b, tv.ownBlock = some b → g + 1 < b
  low : Below g w0 w
  siz : w0.heap.size = g
theorem DS.on {w0 : World} {g : Nat} {cs : Array Value} {F T : List Int} {tv : Value} {a c : World} (h : DS w0 g cs F T tv a) (q : Below a.heap.size a c) : DS w0 g cs F T tv c :=
  ⟨blk_on h.box q, blk_on h.fnd q, row_keep h.row (fun b hb => by
    obtain ⟨cur, hc⟩ := row_lt h.row hb
    exact q.block b (blk_lt hc)), h.apart, h.low.trans (q.mono (by have := blk_lt h.box; omega)), h.siz⟩
theorem DS.set {w0 : World} {g : Nat} {cs : Array Value} {F T : List Int} {tv : Value} {w : World} (h : DS w0 g cs F T tv w) (j : Nat) (e : Int) : DS w0 g cs (F.set j e) T tv (w.setCell ⟨g + 1, j, none⟩ (.int .i64 e)) :=
  ⟨blk_setO h.box (by omega), ir_set h.fnd j e, row_keep h.row (fun b hb => by
    have := h.apart b hb
    exact Below.heap_setCell _ _ _ _ (by simp; omega)), h.apart, h.low.trans ((Keep.set (S := fun k => g < k) (g := g + 1) (by omega) w j _).below (by have := blk_lt h.box; omega) (fun k hk => by omega)), h.siz⟩
theorem DS.app {w0 : World} {g b cap : Nat} {cs : Array Value} {F T : List Int} {tv : Value} {t : Int} {w w' : World} (h : DS w0 g cs F T tv w) (hr : w'.ownsRow 0 3 1 (.slice (some ⟨b, 0, none⟩) (T.length + 1) cap) (T.length + 1) (T.map (Value.int .i64) ++ [.int .i64 t]))
    (hg : w.grownBy w' tv.ownBlock) (hb : tv.ownBlock = some b ∨ w.heap.size ≤ b) : DS w0 g cs F (T ++ [t]) (.slice (some ⟨b, 0, none⟩) (T.length + 1) cap) w' := by
  have hs := blk_lt h.fnd
  have hs0 := blk_lt h.box
  refine ⟨(hg.block g hs0 (fun e => by have := h.apart g e.symm; omega)).trans h.box, (hg.block (g + 1) hs (fun e => by have := h.apart (g + 1) e.symm; omega)).trans h.fnd, ?_, fun b' hb' => ?_, h.low.trans ?_, h.siz⟩
  · simpa using hr
  · simp [Value.ownBlock] at hb'
    subst hb'
    rcases hb with h1 | h1
    · exact h.apart b h1
    · omega
  · exact (Keep.grown (S := fun k => g < k) hg (fun k hk => by have := h.apart k hk; omega)).below (by omega) (fun k hk => by omega)
theorem DS.pop {w0 : World} {g b cap : Nat} {cs : Array Value} {F T : List Int} {t : Int} {w : World} (h : DS w0 g cs F (T ++ [t]) (.slice (some ⟨b, 0, none⟩) (T.length + 1) cap) w) : DS w0 g cs F T (.slice (some ⟨b, 0, none⟩) T.length cap) w :=
  ⟨h.box, h.fnd, row_cut (x := .int .i64 t) (by simpa using h.row), fun b' hb' => h.apart b' (by simpa [Value.ownBlock] using hb'), h.low, h.siz⟩

/-- a row of targets beside them -/
def TgK (g : Nat) (tv v : Value) (xs : List Int) (w : World) : Prop := (v = .slice none 0 0 ∧ xs = []) ∨ ∃ b, v = .slice (some ⟨b, 0, none⟩) xs.length xs.length ∧ g + 1 < b ∧ (∀ b', tv.ownBlock = some b' → b' ≠ b) ∧ IntsR b xs w
theorem TgK.shape {g : Nat} {tv v : Value} {xs : List Int} {w : World} (h : TgK g tv v xs w) : ∃ ao, v = .slice ao xs.length xs.length := by
  rcases h with ⟨h1, h2⟩ | ⟨b, h1, _⟩
  · exact ⟨none, by rw [h1, h2]; rfl⟩
  · exact ⟨_, h1⟩
theorem TgK.at {g i : Nat} {tv : Value} {ao : Option Addr} {xs : List Int} {t : Int} {w : World} (h : TgK g tv (.slice ao xs.length xs.length) xs w) (hi : xs[i]? = some t) : ∃ b, ao = some ⟨b, 0, none⟩ ∧ w.cell? ⟨b, i, none⟩ = some (.int .i64 t) := by
  rcases h with ⟨h1, h2⟩ | ⟨b, h1, _, _, h4⟩
  · rw [h2] at hi; simp at hi
  · injection h1 with e
    subst e
    exact ⟨b, rfl, ir_cell h4 hi⟩
theorem TgK.set {g j : Nat} {tv v u : Value} {xs : List Int} {w : World} (h : TgK g tv v xs w) : TgK g tv v xs (w.setCell ⟨g + 1, j, none⟩ u) := by
  rcases h with h | ⟨b, h1, h2, h3, h4⟩
  · exact .inl h
  · exact .inr ⟨b, h1, h2, h3, blk_setO h4 (by omega)⟩
theorem TgK.app {g b cap m : Nat} {tv v : Value} {xs : List Int} {w w' : World} (h : TgK g tv v xs w) (hg : w.grownBy w' tv.ownBlock) (hb : tv.ownBlock = some b ∨ w.heap.size ≤ b) : TgK g (.slice (some ⟨b, 0, none⟩) m cap) v xs w' := by
  rcases h with h | ⟨c, h1, h2, h3, h4⟩
  · exact .inl h
  · refine .inr ⟨c, h1, h2, fun b' hb' => ?_, (hg.block c (blk_lt h4) (fun e => h3 c e.symm rfl)).trans h4⟩
    simp [Value.ownBlock] at hb'
    subst hb'
    rcases hb with h5 | h5
    · exact h3 b h5
    · have := blk_lt h4; omega
theorem TgN.beside {g : Nat} {v tv : Value} {xs : List Int} {w w' : World} (h : TgN w.heap.size v xs w') (hg : g + 1 < w.heap.size) (ht : ∀ b, tv.ownBlock = some b → b < w.heap.size) : TgK g tv v xs w' := by
  rcases h with h | ⟨b, h1, h2, h3⟩
  · exact .inl h
  · exact .inr ⟨b, h1, by omega, fun b' hb' => by have := ht b' hb'; omega, h3⟩
theorem TgN.ns {lo : Nat} {v : Value} {xs : List Int} {w : World} (h : TgN lo v xs w) : NsIn w.heap.size w v xs := by
  rcases h with ⟨h1, h2⟩ | ⟨b, h1, h2, h3⟩
  · rw [h1, h2]; exact .inl ⟨_, _, rfl, rfl⟩
  · rw [h1]; exact nsIn_blk rfl h3

/-! depths, place by place -/
theorem nx_at {is : List In} {k i : Nat} {x : In} {d t : Int} (hx : is[k]? = some x) (ht : (tgL is k)[i]? = some t) : (nxL is k d)[i]? = some (t, d - (effI x.1 x.2.1).1 + (effI x.1 x.2.1).2 + if (decide (i = 1) && keepB x.1) = true then 1 else 0) := by
  unfold tgL at ht
  unfold nxL
  rw [hx] at ht ⊢
  simp only at ht ⊢
  unfold tgI at ht
  unfold nxI
  generalize effI x.1 x.2.1 = E at *
  split at ht
  · simp at ht
  · rename_i h32
    rw [if_neg h32]
    split at ht
    · rename_i h22
      rw [if_pos h22]
      cases i with
      | zero => simp at ht; simp [ht]
      | succ i => simp at ht
    · rename_i h22
      rw [if_neg h22]
      split at ht
      · rename_i hg
        rw [if_pos hg]
        cases i with
        | zero => simp at ht; simp [ht]
        | succ i =>
          cases i with
          | zero => simp at ht; simp [ht]
          | succ i => simp at ht
      · rename_i hg
        rw [if_neg hg]
        cases i with
        | zero => simp at ht; simp [ht]
        | succ i => simp at ht
theorem nx_len {is : List In} {k : Nat} {d : Int} : (nxL is k d).length = (tgL is k).length := by
  unfold tgL nxL
  split
  · rfl
  · unfold tgI nxI
    repeat' split
    all_goals rfl
theorem tg_ge {is : List In} {k i : Nat} {x : In} {t : Int} (hx : is[k]? = some x) (hA : goB x.1 = true → 0 ≤ x.2.1) (ht : (tgL is k)[i]? = some t) : 0 ≤ t := by
  unfold tgL at ht
  rw [hx] at ht
  simp only at ht
  unfold tgI at ht
  have hm := List.mem_of_getElem? ht
  split at hm
  · cases hm
  · split at hm
    · rename_i h
      simp at hm
      have := hA (by rw [h]; rfl)
      omega
    · split at hm
      · rename_i h
        simp at hm
        have := hA h
        omega
      · simp at hm
        omega
theorem tg_few {is : List In} {k : Nat} : (tgL is k).length ≤ 2 := by
  unfold tgL
  split
  · simp
  · unfold tgI
    repeat' split
    all_goals simp
theorem pop_at {is : List In} {k : Nat} {x : In} (hx : is[k]? = some x) : popL is k = (effI x.1 x.2.1).1 := by unfold popL; rw [hx]

end Go.Proofs.YtnojlfdojmkonaaGreatDoor
