/- The program's reader of instructions, in memory: what it has read so far. -/
import Derived.Test.YtnojlfdojmkonaaGreatDoorAsFill
import Derived.Test.YtnojlfdojmkonaaGreatDoorJoint9
namespace Go.Proofs.YtnojlfdojmkonaaGreatDoor
set_option linter.unusedSimpArgs false
set_option maxRecDepth 100000
open Go.RowKit

theorem elCd : Elem 23 45 5 56 := elem_of (z0 := .agg #[.int .i64 0, .int .i64 0, .int .i64 0, .int .i64 0, .slice none 0 0]) (by kernel_rfl) (by kernel_rfl) rfl
theorem elIn : Elem 43 67 3 24 := elem_of (z0 := .agg #[.int .i64 0, .int .i64 0, .int .i64 0]) (by kernel_rfl) (by kernel_rfl) rfl
theorem blk_ne {g f : Nat} {T U : TypeId} {cs ds : Array Value} {w : World} (h : Blk g T cs w) (k : Blk f U ds w) (hT : T ≠ U) : g ≠ f := by
  rintro rfl
  unfold Blk at *
  rw [h] at k
  injection k with k
  injection k with _ k
  exact hT k
def inC : List In → List Value
  | [] => []
  | x :: r => .int .i64 x.1 :: .int .i64 x.2.1 :: .int .i64 x.2.2 :: inC r
theorem inC_app : ∀ a b : List In, inC (a ++ b) = inC a ++ inC b
  | [], b => rfl
  | x :: r, b => by rw [List.cons_append, inC, inC, inC_app r b]; rfl
theorem inC_at : ∀ {l : List In} {i : Nat} {x : In}, l[i]? = some x → (inC l)[3 * i]? = some (.int .i64 x.1) ∧ (inC l)[3 * i + 1]? = some (.int .i64 x.2.1) ∧ (inC l)[3 * i + 2]? = some (.int .i64 x.2.2)
  | y :: r, 0, x, h => by
    obtain rfl : y = x := by simpa using h
    exact ⟨rfl, rfl, rfl⟩
  | y :: r, i + 1, x, h => by
    have := inC_at (l := r) (i := i) (x := x) (by simpa using h)
    rw [show 3 * (i + 1) = 3 * i + 1 + 1 + 1 by omega, show 3 * i + 1 + 1 + 1 + 1 = (3 * i + 1) + 1 + 1 + 1 by omega, show 3 * i + 1 + 1 + 1 + 2 = (3 * i + 2) + 1 + 1 + 1 by omega]
    simpa [inC] using this
abbrev Cv := Cd × Value
def cdC : List Cv → List Value
  | [] => []
  | x :: r => .int .i64 x.1.p :: .int .i64 x.1.l :: .int .i64 x.1.s :: .int .i64 x.1.d :: x.2 :: cdC r
theorem cdC_app : ∀ a b : List Cv, cdC (a ++ b) = cdC a ++ cdC b
  | [], b => rfl
  | x :: r, b => by rw [List.cons_append, cdC, cdC, cdC_app r b]; rfl
theorem cdC_len : ∀ a : List Cv, (cdC a).length = 5 * a.length
  | [] => rfl
  | x :: r => by rw [cdC]; simp only [List.length_cons, cdC_len r]; omega
theorem cdC_at : ∀ {l : List Cv} {i : Nat} {x : Cv}, l[i]? = some x → (cdC l)[5 * i]? = some (.int .i64 x.1.p) ∧ (cdC l)[5 * i + 1]? = some (.int .i64 x.1.l) ∧ (cdC l)[5 * i + 2]? = some (.int .i64 x.1.s) ∧ (cdC l)[5 * i + 3]? = some (.int .i64 x.1.d) ∧ (cdC l)[5 * i + 4]? = some x.2
  | y :: r, 0, x, h => by
    obtain rfl : y = x := by simpa using h
    exact ⟨rfl, rfl, rfl, rfl, rfl⟩
  | y :: r, i + 1, x, h => by
    have := cdC_at (l := r) (i := i) (x := x) (by simpa using h)
    rw [show 5 * (i + 1) = 5 * i + 1 + 1 + 1 + 1 + 1 by omega, show 5 * i + 1 + 1 + 1 + 1 + 1 + 1 = (5 * i + 1) + 1 + 1 + 1 + 1 + 1 by omega, show 5 * i + 1 + 1 + 1 + 1 + 1 + 2 = (5 * i + 2) + 1 + 1 + 1 + 1 + 1 by omega, show 5 * i + 1 + 1 + 1 + 1 + 1 + 3 = (5 * i + 3) + 1 + 1 + 1 + 1 + 1 by omega, show 5 * i + 1 + 1 + 1 + 1 + 1 + 4 = (5 * i + 4) + 1 + 1 + 1 + 1 + 1 by omega]
    simpa [cdC] using this
/-- the last code's instructions are another row -/
theorem cdC_set (ys : List Cv) (c : Cd) (v v' : Value) : (cdC (ys ++ [(c, v)])).set (5 * ys.length + 4) v' = cdC (ys ++ [(c, v')]) := by
  rw [cdC_app, cdC_app, List.set_append_right _ _ (by rw [cdC_len]; omega), cdC_len]
  rw [show 5 * ys.length + 4 - 5 * ys.length = 4 by omega]
  rfl
/-- codes told by their places alone: the instructions' rows do not show in the numbers -/
theorem cdC_ins (ys : List Cv) (c c' : Cd) (v : Value) (h : c'.p = c.p ∧ c'.l = c.l ∧ c'.s = c.s ∧ c'.d = c.d) : cdC (ys ++ [(c', v)]) = cdC (ys ++ [(c, v)]) := by
  rw [cdC_app, cdC_app]
  simp [cdC, h]

/-- a reader at block r: the program so far, and what reads the next line -/
structure RdB (B r : Nat) (P : Pg) (nv pv cv : Value) (xs : List Cv) (w : World) : Prop where
  low : B ≤ r
  blk : Blk r 63 #[.int .i64 P.g, pv, cv, nv] w
  pool : w.ownsRow 0 9 1 pv P.pool.length (P.pool.map Value.string)
  codes : w.ownsRow 0 45 5 cv xs.length (cdC xs)
  ins : ∀ x ∈ xs, w.ownsRow 0 67 3 x.2 x.1.ins.length (inC x.1.ins)
  fst : xs.map Prod.fst = P.codes
  plow : ∀ g, pv.ownBlock = some g → B ≤ g
  clow : ∀ g, cv.ownBlock = some g → B ≤ g
  ilow : ∀ x ∈ xs, ∀ g, x.2.ownBlock = some g → B ≤ g
  last : ∀ ys x, xs = ys ++ [x] → ∀ g, x.2.ownBlock = some g → ∀ y ∈ ys, y.2.ownBlock ≠ some g
theorem RdB.rlt {B r : Nat} {P : Pg} {nv pv cv : Value} {xs : List Cv} {w : World} (h : RdB B r P nv pv cv xs w) : r < w.heap.size := blk_lt h.blk
/-- whatever is written elsewhere -/
theorem RdB.keep {B r : Nat} {P : Pg} {nv pv cv : Value} {xs : List Cv} {S : Nat → Prop} {a c : World} (h : RdB B r P nv pv cv xs a) (k : Keep S a c) (h1 : ¬ S r) (h2 : ∀ g, pv.ownBlock = some g → ¬ S g) (h3 : ∀ g, cv.ownBlock = some g → ¬ S g) (h4 : ∀ x ∈ xs, ∀ g, x.2.ownBlock = some g → ¬ S g) : RdB B r P nv pv cv xs c := by
  have hk : ∀ {T z n v ys}, a.ownsRow 0 T z v n ys → (∀ g, v.ownBlock = some g → ¬ S g) → c.ownsRow 0 T z v n ys := fun hr hs => row_keep hr (fun g hg => by
    obtain ⟨cur, hc⟩ := row_lt hr hg
    exact k.block g (blk_lt hc) (hs g hg))
  exact ⟨h.low, blk_keep h.blk k h1, hk h.pool h2, hk h.codes h3, fun x hx => hk (h.ins x hx) (h4 x hx), h.fst, h.plow, h.clow, h.ilow, h.last⟩
theorem RdB.on {B r : Nat} {P : Pg} {nv pv cv : Value} {xs : List Cv} {a c : World} (h : RdB B r P nv pv cv xs a) (q : Below a.heap.size a c) : RdB B r P nv pv cv xs c :=
  h.keep (Keep.of (S := fun _ => False) q) (fun h => h) (fun _ _ h => h) (fun _ _ h => h) (fun _ _ _ _ h => h)
/-- a store into the reader's own block -/
theorem RdB.put {B r : Nat} {P : Pg} {nv pv cv : Value} {xs : List Cv} {w : World} (h : RdB B r P nv pv cv xs w) (nv' : Value) : RdB B r P nv' pv cv xs (w.setCell ⟨r, 3, none⟩ nv') := by
  have k := Keep.set (S := fun b => b = r) (g := r) rfl w 3 nv'
  have hk : ∀ {T z n v ys}, T ≠ 63 → w.ownsRow 0 T z v n ys → (w.setCell ⟨r, 3, none⟩ nv').ownsRow 0 T z v n ys := fun ht hr => row_keep hr (fun g hg => by
    obtain ⟨cur, hc⟩ := row_lt hr hg
    exact k.block g (blk_lt hc) (blk_ne hc h.blk ht))
  exact ⟨h.low, blk_set h.blk 3 nv', hk (by decide) h.pool, hk (by decide) h.codes, fun x hx => hk (by decide) (h.ins x hx), h.fst, h.plow, h.clow, h.ilow, h.last⟩
/-- another number of globals -/
theorem RdB.glo {B r : Nat} {P : Pg} {nv pv cv : Value} {xs : List Cv} {a c : World} {g : Int} (h : RdB B r P nv pv cv xs a) (k : Keep (fun b => b = r) a c) (hb : Blk r 63 #[.int .i64 g, pv, cv, nv] c) : RdB B r ⟨g, P.pool, P.codes⟩ nv pv cv xs c := by
  have hk : ∀ {T z n v ys}, T ≠ 63 → a.ownsRow 0 T z v n ys → c.ownsRow 0 T z v n ys := fun ht hr => row_keep hr (fun g hg => by
    obtain ⟨cur, hc⟩ := row_lt hr hg
    exact k.block g (blk_lt hc) (blk_ne hc h.blk ht))
  exact ⟨h.low, hb, hk (by decide) h.pool, hk (by decide) h.codes, fun x hx => hk (by decide) (h.ins x hx), h.fst, h.plow, h.clow, h.ilow, h.last⟩
/-- one string more -/
theorem RdB.str {B r : Nat} {P : Pg} {nv pv cv : Value} {xs : List Cv} {w w2 : World} {s : ByteArray} {g cap : Nat} (hB : B ≤ w.heap.size) (h : RdB B r P nv pv cv xs w) (hown : w2.ownsRow 0 9 1 (.slice (some ⟨g, 0, none⟩) (P.pool.length + 1) cap) (P.pool.length + 1) (P.pool.map Value.string ++ [.string s]))
    (hgrow : w.grownBy w2 pv.ownBlock) (hat : pv.ownBlock = some g ∨ w.heap.size ≤ g) :
    RdB B r ⟨P.g, P.pool ++ [s], P.codes⟩ nv (.slice (some ⟨g, 0, none⟩) (P.pool.length + 1) cap) cv xs (w2.setCell ⟨r, 1, none⟩ (.slice (some ⟨g, 0, none⟩) (P.pool.length + 1) cap)) := by
  have k1 : Keep (fun b => pv.ownBlock = some b) w w2 := Keep.grown hgrow (fun k hk => hk)
  have hr2 : Blk r 63 #[.int .i64 P.g, pv, cv, nv] w2 := blk_keep h.blk k1 (fun e => by
    obtain ⟨cur, hc⟩ := row_lt h.pool e
    exact blk_ne hc h.blk (by decide) rfl)
  have k2 := Keep.set (S := fun b => b = r) (g := r) rfl w2 1 (.slice (some ⟨g, 0, none⟩) (P.pool.length + 1) cap)
  have hk : ∀ {T z n v ys}, T ≠ 63 → T ≠ 9 → w.ownsRow 0 T z v n ys → (w2.setCell ⟨r, 1, none⟩ (.slice (some ⟨g, 0, none⟩) (P.pool.length + 1) cap)).ownsRow 0 T z v n ys := fun ht ht2 hr => row_keep hr (fun b hb => by
    obtain ⟨cur, hc⟩ := row_lt hr hb
    have hn : ¬ pv.ownBlock = some b := fun e => by
      obtain ⟨cur', hc'⟩ := row_lt h.pool e
      exact blk_ne hc hc' ht2 rfl
    rw [k2.block b (Nat.lt_of_lt_of_le (blk_lt hc) k1.size) (blk_ne hc h.blk ht), k1.block b (blk_lt hc) hn])
  refine ⟨h.low, blk_set hr2 1 _, ?_, hk (by decide) (by decide) h.codes, fun x hx => hk (by decide) (by decide) (h.ins x hx), h.fst, fun b hb => ?_, h.clow, h.ilow, h.last⟩
  · rw [List.length_append, List.map_append]
    exact row_keep hown (fun b hb => by
      simp [Value.ownBlock] at hb
      subst hb
      obtain ⟨cur, hc⟩ := row_lt hown (g := g) rfl
      exact k2.block g (blk_lt hc) (blk_ne hc hr2 (by decide)))
  · simp [Value.ownBlock] at hb
    subst hb
    rcases hat with h1 | h1
    · exact h.plow _ h1
    · omega
/-- one code more, without instructions -/
theorem RdB.cod {B r : Nat} {P : Pg} {nv pv cv : Value} {xs : List Cv} {w w2 : World} {p l s d : Int} {g cap : Nat} (hB : B ≤ w.heap.size) (h : RdB B r P nv pv cv xs w) (hown : w2.ownsRow 0 45 5 (.slice (some ⟨g, 0, none⟩) (xs.length + 1) cap) (xs.length + 1) (cdC xs ++ [.int .i64 p, .int .i64 l, .int .i64 s, .int .i64 d, .slice none 0 0]))
    (hgrow : w.grownBy w2 cv.ownBlock) (hat : cv.ownBlock = some g ∨ w.heap.size ≤ g) :
    RdB B r ⟨P.g, P.pool, P.codes ++ [⟨p, l, s, d, []⟩]⟩ nv pv (.slice (some ⟨g, 0, none⟩) (xs.length + 1) cap) (xs ++ [(⟨p, l, s, d, []⟩, .slice none 0 0)]) (w2.setCell ⟨r, 2, none⟩ (.slice (some ⟨g, 0, none⟩) (xs.length + 1) cap)) := by
  have k1 : Keep (fun b => cv.ownBlock = some b) w w2 := Keep.grown hgrow (fun k hk => hk)
  have hr2 : Blk r 63 #[.int .i64 P.g, pv, cv, nv] w2 := blk_keep h.blk k1 (fun e => by
    obtain ⟨cur, hc⟩ := row_lt h.codes e
    exact blk_ne hc h.blk (by decide) rfl)
  have k2 := Keep.set (S := fun b => b = r) (g := r) rfl w2 2 (.slice (some ⟨g, 0, none⟩) (xs.length + 1) cap)
  have hk : ∀ {T z n v ys}, T ≠ 63 → T ≠ 45 → w.ownsRow 0 T z v n ys → (w2.setCell ⟨r, 2, none⟩ (.slice (some ⟨g, 0, none⟩) (xs.length + 1) cap)).ownsRow 0 T z v n ys := fun ht ht2 hr => row_keep hr (fun b hb => by
    obtain ⟨cur, hc⟩ := row_lt hr hb
    have hn : ¬ cv.ownBlock = some b := fun e => by
      obtain ⟨cur', hc'⟩ := row_lt h.codes e
      exact blk_ne hc hc' ht2 rfl
    rw [k2.block b (Nat.lt_of_lt_of_le (blk_lt hc) k1.size) (blk_ne hc h.blk ht), k1.block b (blk_lt hc) hn])
  refine ⟨h.low, blk_set hr2 2 _, hk (by decide) (by decide) h.pool, ?_, fun x hx => ?_, by rw [List.map_append, h.fst]; rfl, h.plow, fun b hb => ?_, fun x hx b hb => ?_, fun ys x e b hb => ?_⟩
  · rw [List.length_append, cdC_app]
    exact row_keep hown (fun b hb => by
      simp [Value.ownBlock] at hb
      subst hb
      obtain ⟨cur, hc⟩ := row_lt hown (g := g) rfl
      exact k2.block g (blk_lt hc) (blk_ne hc hr2 (by decide)))
  · rcases List.mem_append.1 hx with hx | hx
    · exact hk (by decide) (by decide) (h.ins x hx)
    · rw [List.mem_singleton.1 hx]
      exact World.ownsRow_nil _ _ _ _
  · simp [Value.ownBlock] at hb
    subst hb
    rcases hat with h1 | h1
    · exact h.clow _ h1
    · omega
  · rcases List.mem_append.1 hx with hx | hx
    · exact h.ilow x hx b hb
    · rw [List.mem_singleton.1 hx] at hb
      simp [Value.ownBlock] at hb
  · have := List.append_inj' e rfl
    have h2 := List.cons.inj this.2
    rw [← h2.1] at hb
    simp [Value.ownBlock] at hb
/-- one instruction more -/
theorem RdB.one {B r : Nat} {P : Pg} {nv pv : Value} {ys : List Cv} {c : Cd} {iv : Value} {w w2 : World} {x : In} {q qc g cap : Nat} (hB : B ≤ w.heap.size) (h : RdB B r P nv pv (.slice (some ⟨q, 0, none⟩) (ys.length + 1) qc) (ys ++ [(c, iv)]) w)
    (hown : w2.ownsRow 0 67 3 (.slice (some ⟨g, 0, none⟩) (c.ins.length + 1) cap) (c.ins.length + 1) (inC c.ins ++ [.int .i64 x.1, .int .i64 x.2.1, .int .i64 x.2.2]))
    (hgrow : w.grownBy w2 iv.ownBlock) (hat : iv.ownBlock = some g ∨ w.heap.size ≤ g) :
    RdB B r ⟨P.g, P.pool, P.codes.dropLast ++ [⟨c.p, c.l, c.s, c.d, c.ins ++ [x]⟩]⟩ nv pv (.slice (some ⟨q, 0, none⟩) (ys.length + 1) qc) (ys ++ [(⟨c.p, c.l, c.s, c.d, c.ins ++ [x]⟩, .slice (some ⟨g, 0, none⟩) (c.ins.length + 1) cap)]) (w2.setCell ⟨q, 5 * ys.length + 4, none⟩ (.slice (some ⟨g, 0, none⟩) (c.ins.length + 1) cap)) := by
  have hiv := h.ins (c, iv) (by simp)
  simp only at hiv
  have k1 : Keep (fun b => iv.ownBlock = some b) w w2 := Keep.grown hgrow (fun k hk => hk)
  have k2 := Keep.set (S := fun b => b = q) (g := q) rfl w2 (5 * ys.length + 4) (.slice (some ⟨g, 0, none⟩) (c.ins.length + 1) cap)
  obtain ⟨ccur, hcb⟩ := row_lt h.codes (g := q) rfl
  have hcb2 : Blk q 45 ccur w2 := blk_keep hcb k1 (fun e => by
    obtain ⟨cur, hc⟩ := row_lt hiv e
    exact blk_ne hc hcb (by decide) rfl)
  have hcodes2 : w2.ownsRow 0 45 5 (.slice (some ⟨q, 0, none⟩) (ys.length + 1) qc) (ys.length + 1) (cdC (ys ++ [(c, iv)])) := by
    have := row_keep h.codes (c := w2) (fun b hb => by
      simp [Value.ownBlock] at hb
      subst hb
      exact k1.block q (blk_lt hcb) (fun e => by
        obtain ⟨cur, hc⟩ := row_lt hiv e
        exact blk_ne hc hcb (by decide) rfl))
    rwa [List.length_append] at this
  have hk : ∀ {T z n v zs}, T ≠ 45 → T ≠ 67 → w.ownsRow 0 T z v n zs → (w2.setCell ⟨q, 5 * ys.length + 4, none⟩ (.slice (some ⟨g, 0, none⟩) (c.ins.length + 1) cap)).ownsRow 0 T z v n zs := fun ht ht2 hr => row_keep hr (fun b hb => by
    obtain ⟨cur, hc⟩ := row_lt hr hb
    have hn : ¬ iv.ownBlock = some b := fun e => by
      obtain ⟨cur', hc'⟩ := row_lt hiv e
      exact blk_ne hc hc' ht2 rfl
    rw [k2.block b (Nat.lt_of_lt_of_le (blk_lt hc) k1.size) (blk_ne hc hcb ht), k1.block b (blk_lt hc) hn])
  have hgq : g ≠ q := by
    obtain ⟨cur, hc⟩ := row_lt hown (g := g) rfl
    exact blk_ne hc hcb2 (by decide)
  refine ⟨h.low, ?_, hk (by decide) (by decide) h.pool, ?_, fun y hy => ?_, ?_, h.plow, h.clow, fun y hy b hb => ?_, fun zs y e b hb => ?_⟩
  · have hn : ¬ iv.ownBlock = some r := fun e => by
      obtain ⟨cur', hc'⟩ := row_lt hiv e
      exact blk_ne hc' h.blk (by decide) rfl
    exact (k2.block r (Nat.lt_of_lt_of_le h.rlt k1.size) (blk_ne h.blk hcb (by decide))).trans ((k1.block r h.rlt hn).trans h.blk)
  · rw [List.length_append, cdC_ins ys c ⟨c.p, c.l, c.s, c.d, c.ins ++ [x]⟩ _ ⟨rfl, rfl, rfl, rfl⟩, ← cdC_set ys c iv]
    exact row_set hcodes2 _ _
  · rcases List.mem_append.1 hy with hy | hy
    · have h0 := h.ins y (by simp [hy])
      exact row_keep h0 (fun b hb => by
        obtain ⟨cur, hc⟩ := row_lt h0 hb
        have hn : ¬ iv.ownBlock = some b := fun e => h.last ys (c, iv) rfl b e y hy hb
        rw [k2.block b (Nat.lt_of_lt_of_le (blk_lt hc) k1.size) (blk_ne hc hcb (by decide)), k1.block b (blk_lt hc) hn])
    · rw [List.mem_singleton.1 hy]
      simp only [List.length_append, List.length_singleton]
      rw [inC_app]
      exact row_keep hown (fun b hb => by
        simp [Value.ownBlock] at hb
        subst hb
        obtain ⟨cur, hc⟩ := row_lt hown (g := g) rfl
        exact k2.block g (blk_lt hc) hgq)
  · have hf := h.fst
    rw [List.map_append] at hf
    simp only [List.map_cons, List.map_nil] at hf
    rw [← hf, List.map_append, List.dropLast_concat]
    rfl
  · rcases List.mem_append.1 hy with hy | hy
    · exact h.ilow y (by simp [hy]) b hb
    · rw [List.mem_singleton.1 hy] at hb
      simp [Value.ownBlock] at hb
      subst hb
      rcases hat with h1 | h1
      · exact h.ilow (c, iv) (by simp) _ h1
      · omega
  · have := List.append_inj' e rfl
    have h2 := List.cons.inj this.2
    rw [← h2.1] at hb
    simp [Value.ownBlock] at hb
    subst hb
    intro y' hy' hy2
    rw [← this.1] at hy'
    rcases hat with h1 | h1
    · exact h.last ys (c, iv) rfl _ h1 y' hy' hy2
    · have h0 := h.ins y' (by simp [hy'])
      obtain ⟨cur, hc⟩ := row_lt h0 hy2
      have := blk_lt hc
      omega
/-- as a program that came in -/
theorem RdB.pg {B r : Nat} {P : Pg} {nv pv cv : Value} {xs : List Cv} {w : World} (h : RdB B r P nv pv cv xs w) (h1 : P.pool.length ≤ 1000000) (h2 : P.codes.length ≤ 1000000) (h3 : ∀ c ∈ P.codes, c.ins.length ≤ 1000000) (h4 : ∀ s ∈ P.pool, s.size ≤ maxLen) : PgIn w.heap.size w P pv cv := by
  have hl : xs.length = P.codes.length := by rw [← h.fst, List.length_map]
  have hins : ∀ x ∈ xs, InsIn w.heap.size w x.2 x.1.ins := fun x hx => by
    have h0 := h.ins x hx
    rcases Nat.eq_zero_or_pos x.1.ins.length with hz | hz
    · obtain ⟨ao, cap, e⟩ := row_shape h0
      rw [hz] at e
      exact .inl ⟨ao, cap, e, List.length_eq_zero_iff.1 hz⟩
    · obtain ⟨g, cap, e, _, hg⟩ := h0.form hz
      rw [e] at h0
      refine .inr ⟨g, 0, cap, e, hg, fun i y hy => ?_⟩
      obtain ⟨a1, a2, a3⟩ := inC_at hy
      rw [Nat.zero_add, Nat.mul_comm]
      exact ⟨row_cell h0 a1, row_cell h0 a2, row_cell h0 a3⟩
  refine ⟨?_, ?_, ⟨h1, h2⟩, h3, h4⟩
  · rcases Nat.eq_zero_or_pos P.pool.length with hz | hz
    · obtain ⟨ao, cap, e⟩ := row_shape h.pool
      rw [hz] at e
      exact .inl ⟨ao, cap, e, List.length_eq_zero_iff.1 hz⟩
    · have h0 := h.pool
      obtain ⟨g, cap, e, _, hg⟩ := h0.form hz
      rw [e] at h0
      exact .inr ⟨g, 0, cap, e, hg, fun i s hs => by rw [Nat.zero_add]; exact row_cell h0 (by rw [List.getElem?_map, hs]; rfl)⟩
  · rcases Nat.eq_zero_or_pos xs.length with hz | hz
    · obtain ⟨ao, cap, e⟩ := row_shape h.codes
      rw [hz] at e
      exact .inl ⟨ao, cap, e, List.length_eq_zero_iff.1 (by rw [← hl]; exact hz)⟩
    · have h0 := h.codes
      obtain ⟨g, cap, e, _, hg⟩ := h0.form hz
      rw [e] at h0
      refine .inr ⟨g, 0, cap, by rw [e, hl], hg, fun i c hc => ?_⟩
      rw [← h.fst, List.getElem?_map] at hc
      obtain ⟨x, hx, rfl⟩ := Option.map_eq_some_iff.1 hc
      obtain ⟨a1, a2, a3, a4, a5⟩ := cdC_at hx
      rw [Nat.zero_add, Nat.mul_comm]
      exact ⟨x.2, row_cell h0 a1, row_cell h0 a2, row_cell h0 a3, row_cell h0 a4, row_cell h0 a5, hins x (List.mem_of_getElem? hx)⟩

end Go.Proofs.YtnojlfdojmkonaaGreatDoor
