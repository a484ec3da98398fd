/- A layer of instructions in memory: what is laid so far, the strings that have numbers. -/
import Derived.Test.YtgdbaceehpcgbaaDoorJoint9
import Derived.BigQuiet
namespace Go.Proofs.YtgdbaceehpcgbaaDoor
set_option linter.unusedSimpArgs false
open Go.RowKit

theorem elInstr : Elem 39 51 3 24 := elem_of (z0 := .agg #[.int .i64 0, .int .i64 0, .int .i64 0]) (by kernel_rfl) (by kernel_rfl) rfl
theorem elText : Elem 27 9 1 16 := elem_of (z0 := .string ⟨#[]⟩) (by kernel_rfl) (by kernel_rfl) rfl
theorem underCt : Tryd.prog.underlying 57 = some (.map 9 3) := by kernel_rfl

/-- the cells of instructions -/
def inC (x : In) : List Value := [.int .i64 x.1, .int .i64 x.2.1, .int .i64 x.2.2]
def insC : List In → List Value
  | [] => []
  | x :: r => .int .i64 x.1 :: .int .i64 x.2.1 :: .int .i64 x.2.2 :: insC r
theorem insC_len : ∀ l : List In, (insC l).length = l.length * 3
  | [] => rfl
  | x :: r => by rw [insC]; simp [insC_len r]; omega
theorem insC_app : ∀ a b : List In, insC (a ++ b) = insC a ++ insC b
  | [], b => rfl
  | x :: r, b => by rw [List.cons_append, insC, insC, insC_app r b]; rfl
theorem insC_at : ∀ {l : List In} {i : Nat} {x : In}, l[i]? = some x → (insC l)[3 * i]? = some (.int .i64 x.1) ∧ (insC l)[3 * i + 1]? = some (.int .i64 x.2.1) ∧ (insC l)[3 * i + 2]? = some (.int .i64 x.2.2)
  | y :: r, 0, x, h => by
    obtain rfl : y = x := by simpa using h
    exact ⟨rfl, rfl, rfl⟩
  | y :: r, i + 1, x, h => by
    have := insC_at (l := r) (i := i) (x := x) (by simpa using h)
    rw [show 3 * (i + 1) = 3 * i + 1 + 1 + 1 by omega, show 3 * i + 1 + 1 + 1 + 1 = (3 * i + 1) + 1 + 1 + 1 by omega, show 3 * i + 1 + 1 + 1 + 2 = (3 * i + 2) + 1 + 1 + 1 by omega]
    simpa [insC] using this
/-- an instruction goes to a place -/
def putA (l : List In) (i : Nat) (a : Int) : List In := match l[i]? with | some x => l.set i (x.1, a, x.2.2) | none => l
theorem insC_set : ∀ (l : List In) (i : Nat) (a : Int), i < l.length → insC (putA l i a) = (insC l).set (3 * i + 1) (.int .i64 a)
  | y :: r, 0, a, h => rfl
  | y :: r, i + 1, a, h => by
    have ih := insC_set r i a (by simpa using h)
    have hi : i < r.length := by simpa using h
    have hx : r[i]? = some (r[i]'hi) := List.getElem?_eq_getElem hi
    unfold putA at ih ⊢
    rw [hx] at ih
    simp only [List.getElem?_cons_succ, hx, List.set_cons_succ]
    rw [show 3 * (i + 1) + 1 = (3 * i + 1) + 1 + 1 + 1 by omega]
    simp only [insC, List.set_cons_succ]
    rw [ih]
theorem putA_len (l : List In) (i : Nat) (a : Int) : (putA l i a).length = l.length := by unfold putA; split <;> simp
theorem putA_at (A R : List In) (x : In) (a : Int) {i : Nat} (hi : i = A.length) : putA (A ++ x :: R) i a = A ++ (x.1, a, x.2.2) :: R := by
  subst hi
  unfold putA
  simp

/-- the map's answer -/
def numC (L : List ByteArray) (s : ByteArray) : Option Int := (atT L s).map (fun i => (i : Int))
theorem numC_some (L : List ByteArray) (s : ByteArray) : (numC L s).isSome = (atT L s).isSome := by unfold numC; cases atT L s <;> rfl
theorem numC_snoc {L : List ByteArray} {s : ByteArray} (h : atT L s = none) (y : ByteArray) : putF (numC L) s (L.length : Int) y = numC (L ++ [s]) y := by
  unfold putF numC
  rw [atT_snoc]
  by_cases hy : y = s
  · subst hy
    rw [if_pos rfl, h]
    simp
  · rw [if_neg hy]
    rcases Option.eq_none_or_eq_some (atT L y) with h1 | ⟨j, h1⟩
    · rw [h1]; simp [show ¬ s = y from fun e => hy e.symm]
    · rw [h1]; simp
theorem numC_nil : ∀ s, (fun _ => none : ByteArray → Option Int) s = numC [] s := fun _ => rfl

/-- the strings at p: the map at m, the list is v -/
structure PlA (p m : Nat) (v : Value) (L : List ByteArray) (w : World) : Prop where
  blk : Blk p 59 #[.map (some m), v] w
  row : w.ownsRow 0 9 1 v L.length (L.map Value.string)
  map : MapN m (numC L) L.length w
def FtP (p m : Nat) (v : Value) (b : Nat) : Prop := b = p ∨ b = m ∨ v.ownBlock = some b
theorem PlA.keep {p m : Nat} {v : Value} {L : List ByteArray} {a c : World} (h : PlA p m v L a) (hk : ∀ b, FtP p m v b → c.heap[b]? = a.heap[b]?) : PlA p m v L c :=
  ⟨(hk p (.inl rfl)).trans h.blk, row_keep h.row (fun g hg => hk g (.inr (.inr hg))), mapN_keep h.map (hk m (.inr (.inl rfl)))⟩
theorem PlA.lt {p m b : Nat} {v : Value} {L : List ByteArray} {w : World} (h : PlA p m v L w) (hb : FtP p m v b) : b < w.heap.size := by
  rcases hb with rfl | rfl | hb
  · exact blk_lt h.blk
  · exact mapN_lt h.map
  · obtain ⟨cur, hc⟩ := row_lt h.row hb
    exact blk_lt hc
theorem PlA.on {p m : Nat} {v : Value} {L : List ByteArray} {a c : World} (h : PlA p m v L a) (k : Below a.heap.size a c) : PlA p m v L c := h.keep fun b hb => k.block b (h.lt hb)
theorem PlA.ne {p m : Nat} {v : Value} {L : List ByteArray} {w : World} (h : PlA p m v L w) : m ≠ p ∧ (∀ g, v.ownBlock = some g → g ≠ p ∧ g ≠ m) := by
  obtain ⟨es, clock, hm⟩ := mapN_block h.map
  have hp : w.heap[p]? = _ := h.blk
  refine ⟨fun e => ?_, fun g hg => ⟨fun e => ?_, fun e => ?_⟩⟩
  · rw [e, hp] at hm; cases hm
  · obtain ⟨cur, hc⟩ := row_lt h.row hg
    unfold Blk at hc
    rw [e, hp] at hc; cases hc
  · obtain ⟨cur, hc⟩ := row_lt h.row hg
    unfold Blk at hc
    rw [e, hm] at hc; cases hc
theorem PlA.far {p m g : Nat} {v : Value} {L : List ByteArray} {T : TypeId} {cs : Array Value} {w : World} (h : PlA p m v L w) (hg : Blk g T cs w) (h1 : T ≠ 59) (h2 : T ≠ 9) : ¬ FtP p m v g := by
  have hg' : w.heap[g]? = _ := hg
  rintro (rfl | rfl | hb)
  · have := h.blk
    unfold Blk at this
    rw [hg'] at this
    injection this with this
    injection this with _ this
    exact h1 this
  · obtain ⟨es, clock, hm⟩ := mapN_block h.map
    rw [hg'] at hm; cases hm
  · obtain ⟨cur, hc⟩ := row_lt h.row hb
    unfold Blk at hc
    rw [hg'] at hc
    injection hc with hc
    injection hc with _ hc
    exact h2 hc

/-- strings with numbers, in the blocks of S -/
def PlS (S : Nat → Prop) (p : Nat) (L : List ByteArray) (w : World) : Prop := ∃ m v, PlA p m v L w ∧ ∀ b, FtP p m v b → S b
theorem PlS.mono {S T : Nat → Prop} {p : Nat} {L : List ByteArray} {w : World} (h : PlS S p L w) (hS : ∀ b, b < w.heap.size → S b → T b) : PlS T p L w := by
  obtain ⟨m, v, h1, h2⟩ := h
  exact ⟨m, v, h1, fun b hb => hS b (h1.lt hb) (h2 b hb)⟩
theorem PlS.keep {S T : Nat → Prop} {p : Nat} {L : List ByteArray} {a c : World} (h : PlS S p L a) (k : Keep T a c) (hT : ∀ b, b < a.heap.size → S b → ¬ T b) : PlS S p L c := by
  obtain ⟨m, v, h1, h2⟩ := h
  exact ⟨m, v, h1.keep (fun b hb => k.block b (h1.lt hb) (hT b (h1.lt hb) (h2 b hb))), h2⟩
theorem PlS.on {S : Nat → Prop} {p : Nat} {L : List ByteArray} {a c : World} (h : PlS S p L a) (k : Below a.heap.size a c) : PlS S p L c :=
  h.keep (T := fun _ => False) (Keep.of k) (fun _ _ _ h => h)

/-- instructions laid at l, strings at p -/
structure LyA (S : Nat → Prop) (l p : Nat) (v : Value) (I : List In) (L : List ByteArray) (c : Int) (w : World) : Prop where
  pl : PlS S p L w
  blk : Blk l 80 #[.pointer (some ⟨p, 0, none⟩), v, .int .i64 c] w
  row : w.ownsRow 0 51 3 v I.length (insC I)
  inl : S l
  inv : ∀ b, v.ownBlock = some b → S b
/-- in the blocks of S; B is as it was -/
def LyS (S : Nat → Prop) (l p : Nat) (I : List In) (c : Cs) (w : World) : Prop := ∃ v, LyA S l p v I c.1 c.2 w
theorem LyA.mono {S T : Nat → Prop} {l p : Nat} {v : Value} {I : List In} {L : List ByteArray} {c : Int} {w : World} (h : LyA S l p v I L c w) (hS : ∀ b, b < w.heap.size → S b → T b) : LyA T l p v I L c w :=
  ⟨h.pl.mono hS, h.blk, h.row, hS _ (blk_lt h.blk) h.inl, fun b hb => by
    obtain ⟨cur, hc⟩ := row_lt h.row hb
    exact hS b (blk_lt hc) (h.inv b hb)⟩
theorem LyA.keep {S T : Nat → Prop} {l p : Nat} {v : Value} {I : List In} {L : List ByteArray} {c : Int} {a d : World} (h : LyA S l p v I L c a) (k : Keep T a d) (hT : ∀ b, b < a.heap.size → S b → ¬ T b) : LyA S l p v I L c d :=
  ⟨h.pl.keep k hT, blk_keep h.blk k (hT _ (blk_lt h.blk) h.inl), row_keep h.row (fun b hb => by
    obtain ⟨cur, hc⟩ := row_lt h.row hb
    exact k.block b (blk_lt hc) (hT b (blk_lt hc) (h.inv b hb))), h.inl, h.inv⟩
theorem LyA.on {S : Nat → Prop} {l p : Nat} {v : Value} {I : List In} {L : List ByteArray} {c : Int} {a d : World} (h : LyA S l p v I L c a) (k : Below a.heap.size a d) : LyA S l p v I L c d :=
  h.keep (T := fun _ => False) (Keep.of k) (fun _ _ _ h => h)
theorem LyS.mono {S T : Nat → Prop} {l p : Nat} {I : List In} {c : Cs} {w : World} (h : LyS S l p I c w) (hS : ∀ b, b < w.heap.size → S b → T b) : LyS T l p I c w := h.imp fun _ h => h.mono hS
theorem LyS.keep {S T : Nat → Prop} {l p : Nat} {I : List In} {c : Cs} {a d : World} (h : LyS S l p I c a) (k : Keep T a d) (hT : ∀ b, b < a.heap.size → S b → ¬ T b) : LyS S l p I c d := h.imp fun _ h => h.keep k hT
theorem LyS.on {S : Nat → Prop} {l p : Nat} {I : List In} {c : Cs} {a d : World} (h : LyS S l p I c a) (k : Below a.heap.size a d) : LyS S l p I c d := h.imp fun _ h => h.on k
/-- blocks of three types are three blocks -/
theorem blk_apart {g f : Nat} {T U : TypeId} {cs ds : Array Value} {w : World} (h : Blk g T cs w) (k : Blk f U ds w) (hT : T ≠ U) : g ≠ f := by
  rintro rfl
  unfold Blk at *
  rw [h] at k
  injection k with k
  injection k with _ k
  exact hT k
theorem LyA.ne {S : Nat → Prop} {l p : Nat} {v : Value} {I : List In} {L : List ByteArray} {c : Int} {w : World} (h : LyA S l p v I L c w) : ∀ g, v.ownBlock = some g → g ≠ l := by
  intro g hg e
  obtain ⟨cur, hc⟩ := row_lt h.row hg
  exact blk_apart hc h.blk (by decide) e
/-- what came behind a call: in the blocks of S and new ones -/
def Gone (S : Nat → Prop) (l p : Nat) (I : List In) (c : Cs) (w w' : World) : Prop := LyS (Up S w) l p I c w' ∧ Keep S w w'
theorem up_up {S : Nat → Prop} {a b : World} (h : a.heap.size ≤ b.heap.size) {i : Nat} (k : Up (Up S a) b i) : Up S a i := by
  rcases k with h1 | h1
  · exact h1
  · exact .inr (by omega)
theorem Gone.trans {S : Nat → Prop} {l p : Nat} {I J : List In} {c d : Cs} {u v w : World} (h : Gone S l p I c u v) (k : Gone (Up S u) l p J d v w) : Gone S l p J d u w :=
  ⟨k.1.mono fun b _ hb => up_up h.2.size hb, h.2.trans k.2 fun i hi hT => hT.resolve_right (by omega)⟩
theorem Gone.size {S : Nat → Prop} {l p : Nat} {I : List In} {c : Cs} {w w' : World} (h : Gone S l p I c w w') : w.heap.size ≤ w'.heap.size := h.2.size

end Go.Proofs.YtgdbaceehpcgbaaDoor
