/- A table beside the document's, and beside a list of numbers. -/
import Derived.Test.YtblejdoceppfjaaNmRef
namespace Go.Proofs.Ytblejdoceppfjaa
set_option linter.unusedSimpArgs false
open Go.RowKit

/-- a table at t and the document's at r, apart from one another, from block B on -/
def PairN (B t r : Nat) (L M : List ByteArray) (w : World) : Prop :=
  B ≤ w.heap.size ∧ ∃ S T : Nat → Prop, NmS S t L w ∧ RtS T r M w ∧ (∀ b, S b → B ≤ b ∧ b < w.heap.size ∧ ¬ T b) ∧ ∀ b, T b → B ≤ b ∧ b < w.heap.size
theorem PairN.on {B t r : Nat} {L M : List ByteArray} {a c : World} (h : PairN B t r L M a) (k : Below a.heap.size a c) : PairN B t r L M c := by
  obtain ⟨h0, S, T, h1, h2, h3, h4⟩ := h
  have := k.size
  exact ⟨by omega, S, T, h1.on k, h2.on k, fun b hb => ⟨(h3 b hb).1, by have := (h3 b hb).2.1; omega, (h3 b hb).2.2⟩, fun b hb => ⟨(h4 b hb).1, by have := (h4 b hb).2; omega⟩⟩
theorem PairN.drew {B t r : Nat} {L M : List ByteArray} {a : World} (h : PairN B t r L M a) : PairN B t r L M a.drew := h.on (Below.refl _ _).drew
theorem pair_new {B t : Nat} {w : World} (h : NmS (fun b => B ≤ b) t [] w) (hB : B ≤ w.heap.size) : PairN B t w.heap.size [] [] (w.alloc (.cells #[.slice none 0 0] 29)) := by
  have A := (Below.refl w.heap.size w).alloc (Nat.le_refl _) (.cells #[.slice none 0 0] 29)
  refine ⟨by simp; omega, fun b => B ≤ b ∧ b < w.heap.size, fun b => b = w.heap.size, (h.mono (fun b h1 h2 => ⟨h2, h1⟩)).on A, (rt_new w).mono (fun b h1 h2 => by simp at h1; omega), fun b hb => ?_, fun b hb => ?_⟩
  · simp; omega
  · simp; omega
theorem pair_t {B t r : Nat} {L M : List ByteArray} (w : World) (h : PairN B t r L M w) (s : ByteArray) (hs : s.size ≤ maxLen) (hl : L.length ≤ 1000000) :
    Calls Try.prog 10 #[.pointer (some ⟨t, 0, none⟩), .string s] w fun e w' => e = .returned (.int .i64 (numT L s : Int)) ∧ PairN B t r (ofT L s) M w' ∧ Below B w w' := by
  obtain ⟨h0, S, T, h1, h2, h3, h4⟩ := h
  refine (tof_calls w h1 s hs hl).mono ?_
  rintro e w' ⟨he, g1, g2⟩
  have hz := g2.size
  refine ⟨he, ⟨by omega, fun b => Up S w b ∧ b < w'.heap.size, T, g1.mono (fun b q1 q2 => ⟨q2, q1⟩), h2.keep g2 (fun b q1 q2 q3 => (h3 b q3).2.2 q2), fun b hb => ?_, fun b hb => ⟨(h4 b hb).1, by have := (h4 b hb).2; omega⟩⟩, g2.below h0 (fun b hb => (h3 b hb).1)⟩
  obtain ⟨hb | hb, hb2⟩ := hb
  · exact ⟨(h3 b hb).1, hb2, (h3 b hb).2.2⟩
  · exact ⟨by omega, hb2, fun ht => by have := (h4 b ht).2; omega⟩
theorem pair_r {B t r : Nat} {L M : List ByteArray} (w : World) (h : PairN B t r L M w) (s : ByteArray) (hl : M.length ≤ 1000000) :
    Calls Try.prog 11 #[.pointer (some ⟨r, 0, none⟩), .string s] w fun e w' => e = .returned (.int .i64 (numT M s : Int)) ∧ PairN B t r L (ofT M s) w' ∧ Below B w w' := by
  obtain ⟨h0, S, T, h1, h2, h3, h4⟩ := h
  refine (rof_calls w h2 s hl).mono ?_
  rintro e w' ⟨he, g1, g2⟩
  have hz := g2.size
  refine ⟨he, ⟨by omega, S, fun b => Up T w b ∧ b < w'.heap.size, h1.keep g2 (fun b q1 q2 q3 => (h3 b q2).2.2 q3), g1.mono (fun b q1 q2 => ⟨q2, q1⟩), fun b hb => ?_, fun b hb => ?_⟩, g2.below h0 (fun b hb => (h4 b hb).1)⟩
  · refine ⟨(h3 b hb).1, by have := (h3 b hb).2.1; omega, fun ht => ?_⟩
    obtain ⟨ht | ht, _⟩ := ht
    · exact (h3 b hb).2.2 ht
    · have := (h3 b hb).2.1; omega
  · obtain ⟨hb | hb, hb2⟩ := hb
    · exact ⟨(h4 b hb).1, hb2⟩
    · exact ⟨by omega, hb2⟩
theorem PairN.tab {B t r : Nat} {L M : List ByteArray} {w : World} (h : PairN B t r L M w) : ∃ S, NmS S t L w := by
  obtain ⟨_, S, _, h, _⟩ := h
  exact ⟨S, h⟩
theorem PairN.ref {B t r : Nat} {L M : List ByteArray} {w : World} (h : PairN B t r L M w) : ∃ S, RtS S r M w := by
  obtain ⟨_, _, T, _, h, _⟩ := h
  exact ⟨T, h⟩
theorem PairN.rcell {B t r : Nat} {L M : List ByteArray} {w : World} (h : PairN B t r L M w) : ∃ ao cap, w.cell? ⟨r, 0, none⟩ = some (.slice ao M.length cap) := by
  obtain ⟨T, v, h1, h2, _⟩ := h.ref
  obtain ⟨ao, cap, rfl⟩ := row_shape h2
  exact ⟨ao, cap, by rw [blk_cell h1]; rfl⟩
theorem pair_len {B t r : Nat} {L M : List ByteArray} (w : World) (h : PairN B t r L M w) :
    Calls Try.prog 12 #[.pointer (some ⟨t, 0, none⟩)] w fun e w' => e = .returned (.int .i64 (L.length : Int)) ∧ w' = w := by
  obtain ⟨S, h⟩ := h.tab
  exact tlen_calls w h
theorem pair_find {B t r : Nat} {L M : List ByteArray} (w : World) (h : PairN B t r L M w) (s : ByteArray) (hs : s.size ≤ maxLen) :
    Calls Try.prog 13 #[.pointer (some ⟨t, 0, none⟩), .string s] w fun e w' => e = .returned (.tuple #[.int .i64 (findT L s : Int), .bool (atT L s).isSome]) ∧ w' = w := by
  obtain ⟨S, h⟩ := h.tab
  exact tfind_calls w h s hs
theorem pair_rfind {B t r : Nat} {L M : List ByteArray} (w : World) (h : PairN B t r L M w) (s : ByteArray) (hl : M.length ≤ 1000000) :
    Calls Try.prog 14 #[.pointer (some ⟨r, 0, none⟩), .string s] w fun e w' => e = .returned (.tuple #[.int .i64 (findT M s : Int), .bool (atT M s).isSome]) ∧ w' = w := by
  obtain ⟨S, h⟩ := h.ref
  exact rfind_calls w h s hl
/-- a number's text -/
def textT (L : List ByteArray) (i : Int) : ByteArray × Bool := if 1 ≤ i then (match L[(i - 1).toNat]? with | some s => (s, true) | none => (⟨#[]⟩, false)) else (⟨#[]⟩, false)
theorem textT_none {L : List ByteArray} {i : Int} (h : ¬ (1 ≤ i ∧ i ≤ L.length)) : textT L i = (⟨#[]⟩, false) := by
  unfold textT
  split
  · rw [List.getElem?_eq_none (by omega)]
  · rfl
theorem textT_some {L : List ByteArray} {i : Nat} {s : ByteArray} (h : L[i]? = some s) : textT L ((i : Int) + 1) = (s, true) := by
  unfold textT
  rw [if_pos (by omega), show (((i : Int) + 1) - 1).toNat = i by omega, h]
theorem pair_text {B t r : Nat} {L M : List ByteArray} (w : World) (h : PairN B t r L M w) (i : Int) (hl : L.length ≤ 1000000) :
    Calls Try.prog 15 #[.pointer (some ⟨t, 0, none⟩), .int .i64 i] w fun e w' => e = .returned (.tuple #[.string (textT L i).1, .bool (textT L i).2]) ∧ w' = w := by
  obtain ⟨S, h⟩ := h.tab
  by_cases hi : 1 ≤ i ∧ i ≤ L.length
  · obtain ⟨k, rfl⟩ : ∃ k : Nat, i = (k : Int) + 1 := ⟨(i - 1).toNat, by omega⟩
    have hk : L[k]? = some (L[k]'(by omega)) := List.getElem?_eq_getElem (by omega)
    rw [textT_some hk]
    exact ttext_some w h hk hl
  · rw [textT_none hi]
    exact ttext_none w h i hi
theorem pair_rtext {B t r : Nat} {L M : List ByteArray} (w : World) (h : PairN B t r L M w) (i : Int) (hl : M.length ≤ 1000000) :
    Calls Try.prog 16 #[.pointer (some ⟨r, 0, none⟩), .int .i64 i] w fun e w' => e = .returned (.tuple #[.string (textT M i).1, .bool (textT M i).2]) ∧ w' = w := by
  obtain ⟨S, h⟩ := h.ref
  by_cases hi : 1 ≤ i ∧ i ≤ M.length
  · obtain ⟨k, rfl⟩ : ∃ k : Nat, i = (k : Int) + 1 := ⟨(i - 1).toNat, by omega⟩
    have hk : M[k]? = some (M[k]'(by omega)) := List.getElem?_eq_getElem (by omega)
    rw [textT_some hk]
    exact rtext_some w h hk hl
  · rw [textT_none hi]
    exact rtext_none w h i hi

/-! beside a list of numbers -/
theorem elIn : Elem 38 3 1 8 := elem_of (z0 := .int .i64 0) (by kernel_rfl) (by kernel_rfl) rfl
def intC (D : List Nat) : List Value := D.map fun (n : Nat) => Value.int .i64 (n : Int)
/-- a table at t, and numbers in v -/
def BesideN (B t : Nat) (v : Value) (L : List ByteArray) (D : List Nat) (w : World) : Prop :=
  B ≤ w.heap.size ∧ w.ownsRow 0 3 1 v D.length (intC D) ∧ (∀ g, v.ownBlock = some g → B ≤ g) ∧ ∃ S : Nat → Prop, NmS S t L w ∧ ∀ b, S b → B ≤ b ∧ b < w.heap.size ∧ v.ownBlock ≠ some b
theorem BesideN.on {B t : Nat} {v : Value} {L : List ByteArray} {D : List Nat} {a c : World} (h : BesideN B t v L D a) (k : Below a.heap.size a c) : BesideN B t v L D c := by
  obtain ⟨h0, h1, h2, S, h3, h4⟩ := h
  have := k.size
  exact ⟨by omega, row_keep h1 (fun g hg => by obtain ⟨cur, hc⟩ := row_lt h1 hg; exact k.block g (blk_lt hc)), h2, S, h3.on k, fun b hb => ⟨(h4 b hb).1, by have := (h4 b hb).2.1; omega, (h4 b hb).2.2⟩⟩
theorem beside_of {B t : Nat} {v : Value} {L : List ByteArray} {D : List Nat} (w : World) (h : BesideN B t v L D w) (s : ByteArray) (hs : s.size ≤ maxLen) (hl : L.length ≤ 1000000) :
    Calls Try.prog 10 #[.pointer (some ⟨t, 0, none⟩), .string s] w fun e w' => e = .returned (.int .i64 (numT L s : Int)) ∧ BesideN B t v (ofT L s) D w' ∧ Below B w w' := by
  obtain ⟨h0, h1, h2, S, h3, h4⟩ := h
  refine (tof_calls w h3 s hs hl).mono ?_
  rintro e w' ⟨he, g1, g2⟩
  have hz := g2.size
  refine ⟨he, ⟨by omega, row_keep h1 (fun g hg => by obtain ⟨cur, hc⟩ := row_lt h1 hg; exact g2.block g (blk_lt hc) (fun q => (h4 g q).2.2 hg)), h2, fun b => Up S w b ∧ b < w'.heap.size, g1.mono (fun b q1 q2 => ⟨q2, q1⟩), fun b hb => ?_⟩, g2.below h0 (fun b hb => (h4 b hb).1)⟩
  obtain ⟨hb | hb, hb2⟩ := hb
  · exact ⟨(h4 b hb).1, hb2, (h4 b hb).2.2⟩
  · refine ⟨by omega, hb2, fun e => ?_⟩
    obtain ⟨cur, hc⟩ := row_lt h1 e
    have := blk_lt hc
    omega
theorem beside_app {B t g cap : Nat} {v : Value} {L : List ByteArray} {D : List Nat} {n : Nat} {w w' : World} (h : BesideN B t v L D w) (hown : w'.ownsRow 0 3 1 (.slice (some ⟨g, 0, none⟩) (D.length + 1) cap) (D.length + 1) (intC D ++ [.int .i64 (n : Int)]))
    (hg : w.grownBy w' v.ownBlock) (hat : v.ownBlock = some g ∨ w.heap.size ≤ g) : BesideN B t (.slice (some ⟨g, 0, none⟩) (D.length + 1) cap) L (D ++ [n]) w' ∧ Below B w w' := by
  obtain ⟨h0, h1, h2, S, h3, h4⟩ := h
  have k : Keep (fun b => v.ownBlock = some b) w w' := Keep.grown hg (fun k hk => hk)
  have hz := hg.size
  refine ⟨⟨by omega, ?_, ?_, S, h3.keep k (fun b _ q1 q2 => (h4 b q1).2.2 q2), fun b hb => ⟨(h4 b hb).1, by have := (h4 b hb).2.1; omega, ?_⟩⟩, k.below h0 (fun b hb => h2 b hb)⟩
  · rw [List.length_append]
    unfold intC at hown ⊢
    rw [List.map_append]
    exact hown
  · intro b hb
    simp [Value.ownBlock] at hb
    subst hb
    rcases hat with h | h
    · exact h2 g h
    · omega
  · intro e
    simp [Value.ownBlock] at e
    subst e
    rcases hat with h | h
    · exact (h4 g hb).2.2 h
    · have := (h4 g hb).2.1; omega
theorem BesideN.tab {B t : Nat} {v : Value} {L : List ByteArray} {D : List Nat} {w : World} (h : BesideN B t v L D w) : ∃ S, NmS S t L w := by
  obtain ⟨_, _, _, S, h, _⟩ := h
  exact ⟨S, h⟩
theorem BesideN.cell {B t i n : Nat} {v : Value} {L : List ByteArray} {D : List Nat} {w : World} (h : BesideN B t v L D w) (hi : D[i]? = some n) : ∃ g cap, v = .slice (some ⟨g, 0, none⟩) D.length cap ∧ w.cell? ⟨g, i, none⟩ = some (.int .i64 (n : Int)) := by
  obtain ⟨_, h1, _⟩ := h
  have hl : i < D.length := (List.getElem?_eq_some_iff.1 hi).1
  obtain ⟨g, cap, rfl, _, hg⟩ := h1.form (by omega)
  exact ⟨g, cap, rfl, row_cell h1 (by simp [intC, hi])⟩
/-- the numbers of the first texts -/
def IdsN (xs : List ByteArray) (j : Nat) (L : List ByteArray) (D : List Nat) : Prop := D.length = j ∧ ∀ i s, i < j → xs[i]? = some s → ∃ n, D[i]? = some (n + 1) ∧ atT L s = some n
theorem ids_of {xs : List ByteArray} {j : Nat} {L : List ByteArray} {D : List Nat} (h : IdsN xs j L D) (y : ByteArray) : IdsN xs j (ofT L y) D :=
  ⟨h.1, fun i s hi hs => by
    obtain ⟨n, h1, h2⟩ := h.2 i s hi hs
    exact ⟨n, h1, ofT_stay h2⟩⟩
theorem ids_more {xs : List ByteArray} {j : Nat} {L : List ByteArray} {D : List Nat} {s : ByteArray} (h : IdsN xs j L D) (hs : xs[j]? = some s) : IdsN xs (j + 1) (ofT L s) (D ++ [numT L s]) := by
  refine ⟨by simp [h.1], fun i x hi hx => ?_⟩
  rcases Nat.lt_or_ge i j with hij | hij
  · obtain ⟨n, h1, h2⟩ := (ids_of h s).2 i x hij hx
    exact ⟨n, by rw [List.getElem?_append_left (by have := h.1; omega)]; exact h1, h2⟩
  · have : i = j := by omega
    subst this
    rw [hs] at hx
    cases hx
    have q := ofT_at L s
    exact ⟨numT L s - 1, by rw [List.getElem?_append_right (by have := h.1; omega), h.1]; simp; omega, q.1⟩

end Go.Proofs.Ytblejdoceppfjaa
