/- Maps from texts to numbers, rows of one's own, and what stays as it was. -/
import Derived.Test.YtimhgbcanmgajaaGreatJoint1
import Derived.Test.YtimhgbcanmgajaaGreatProg
import Derived.KernelRfl
import Derived.Maps.OwnSet
import Derived.Maps.OwnOps
import Derived.Deep.AppendLies
import Derived.Deep.RegionHeld3
namespace Go.Proofs.YtimhgbcanmgajaaGreat
open Go.RowKit

/-- a block of one's own -/
def Blk (g : Nat) (T : TypeId) (cs : Array Value) (w : World) : Prop := w.heap[g]? = some (.cells cs T (0, 0))
theorem blk_lt {g : Nat} {T : TypeId} {cs : Array Value} {w : World} (h : Blk g T cs w) : g < w.heap.size := by
  rcases Nat.lt_or_ge g w.heap.size with h' | h'
  · exact h'
  · simp [Blk, Array.getElem?_eq_none h'] at h
theorem blk_new (w : World) (T : TypeId) (cs : Array Value) : Blk w.heap.size T cs (w.alloc (.cells cs T)) := heap_alloc_new w _
theorem blk_cell {g : Nat} {T : TypeId} {cs : Array Value} {w : World} (h : Blk g T cs w) (i : Nat) : w.cell? ⟨g, i, none⟩ = cs[i]? := by
  unfold Blk at h
  simp [World.cell?, h]
theorem blk_set {g : Nat} {T : TypeId} {cs : Array Value} {w : World} (h : Blk g T cs w) (i : Nat) (v : Value) : Blk g T (cs.setIfInBounds i v) (w.setCell ⟨g, i, none⟩ v) := by
  unfold Blk at *
  simp [World.setCell, Array.getElem?_modify, h]
theorem blk_free {g : Nat} {T : TypeId} {cs : Array Value} {w : World} (h : Blk g T cs w) (i : Nat) : w.frozen? ⟨g, i, none⟩ = false := by
  unfold Blk at h
  simp [World.frozen?, h]

/-- all old blocks but those of S are as they were -/
structure Keep (S : Nat → Prop) (w w' : World) : Prop where
  os : w'.os = w.os
  tape : w'.tape = w.tape
  output : w'.output = w.output
  size : w.heap.size ≤ w'.heap.size
  block : ∀ k, k < w.heap.size → ¬ S k → w'.heap[k]? = w.heap[k]?
theorem Keep.refl (S : Nat → Prop) (w : World) : Keep S w w := ⟨rfl, rfl, rfl, Nat.le_refl _, fun _ _ _ => rfl⟩
theorem Keep.drew (S : Nat → Prop) (w : World) : Keep S w w.drew := ⟨rfl, rfl, rfl, Nat.le_refl _, fun _ _ _ => rfl⟩
/-- new blocks may be written, too -/
def Up (S : Nat → Prop) (w : World) (b : Nat) : Prop := S b ∨ w.heap.size ≤ b
theorem Keep.trans {S T : Nat → Prop} {a b c : World} (h : Keep S a b) (k : Keep T b c) (hT : ∀ i, i < a.heap.size → T i → S i) : Keep S a c :=
  ⟨k.os.trans h.os, k.tape.trans h.tape, k.output.trans h.output, Nat.le_trans h.size k.size, fun i hi hp => (k.block i (Nat.lt_of_lt_of_le hi h.size) (fun ht => hp (hT i hi ht))).trans (h.block i hi hp)⟩
theorem Keep.mono {S T : Nat → Prop} {a b : World} (h : Keep S a b) (hT : ∀ i, i < a.heap.size → S i → T i) : Keep T a b :=
  ⟨h.os, h.tape, h.output, h.size, fun i hi hp => h.block i hi (fun hs => hp (hT i hi hs))⟩
theorem Keep.of {S : Nat → Prop} {a b : World} (h : Below a.heap.size a b) : Keep S a b := ⟨h.os, h.tape, h.output, h.size, fun k hk _ => h.block k hk⟩
theorem Keep.grown {S : Nat → Prop} {a b : World} {row : Option Nat} (h : a.grownBy b row) (hr : ∀ k, row = some k → S k) : Keep S a b :=
  ⟨h.os, h.tape, h.output, h.size, fun k hk hn => h.block k hk (fun e => hn (hr k e.symm))⟩
theorem Keep.set {S : Nat → Prop} {g : Nat} (hg : S g) (w : World) (i : Nat) (v : Value) : Keep S w (w.setCell ⟨g, i, none⟩ v) :=
  ⟨rfl, rfl, rfl, by simp [World.setCell], fun k _ hp => Below.heap_setCell _ _ _ _ (fun e => hp (by simpa [e] using hg))⟩
theorem Keep.alloc (S : Nat → Prop) (w : World) (o : Obj) : Keep S w (w.alloc o) := Keep.of ((Below.refl _ _).alloc (Nat.le_refl _) o)
theorem Keep.below {S : Nat → Prop} {B : Nat} {a b : World} (h : Keep S a b) (hB : B ≤ a.heap.size) (hS : ∀ k, S k → B ≤ k) : Below B a b :=
  ⟨h.os, h.tape, h.output, h.size, fun k hk => h.block k (by omega) (fun hs => by have := hS k hs; omega)⟩
theorem Keep.none {S : Nat → Prop} {a b : World} (h : Keep S a b) (hS : ∀ k, k < a.heap.size → ¬ S k) : Below a.heap.size a b :=
  ⟨h.os, h.tape, h.output, h.size, fun k hk => h.block k hk (hS k hk)⟩
theorem blk_keep {S : Nat → Prop} {g : Nat} {T : TypeId} {cs : Array Value} {a c : World} (h : Blk g T cs a) (k : Keep S a c) (hp : ¬ S g) : Blk g T cs c := (k.block g (blk_lt h) hp).trans h
theorem blk_on {g : Nat} {T : TypeId} {cs : Array Value} {a c : World} (h : Blk g T cs a) (k : Below a.heap.size a c) : Blk g T cs c := (k.block g (blk_lt h)).trans h

/-! rows of one's own -/
theorem row_lt {T : TypeId} {z n g : Nat} {v : Value} {xs : List Value} {w : World} (h : w.ownsRow 0 T z v n xs) (hv : v.ownBlock = some g) : ∃ cur, Blk g T cur w := by
  rcases h.2 with ⟨h1, _⟩ | ⟨g', cap, cur, h1, _, h3, _⟩
  · rw [h1] at hv; simp [Value.ownBlock] at hv
  · rw [h1] at hv
    simp [Value.ownBlock] at hv
    subst hv
    exact ⟨cur, h3⟩
theorem row_keep {T : TypeId} {z n : Nat} {v : Value} {xs : List Value} {a c : World} (h : a.ownsRow 0 T z v n xs) (hk : ∀ g, v.ownBlock = some g → c.heap[g]? = a.heap[g]?) : c.ownsRow 0 T z v n xs := by
  refine ⟨h.1, ?_⟩
  rcases h.2 with h1 | ⟨g, cap, cur, h1, h2, h3, h4⟩
  · exact .inl h1
  · exact .inr ⟨g, cap, cur, h1, h2, by rw [hk g (by rw [h1]; rfl)]; exact h3, h4⟩
theorem row_shape {T : TypeId} {z n : Nat} {v : Value} {xs : List Value} {w : World} (h : w.ownsRow 0 T z v n xs) : ∃ ao cap, v = .slice ao n cap := by
  rcases h.2 with ⟨h1, h2⟩ | ⟨g, cap, cur, h1, _⟩
  · exact ⟨none, 0, by rw [h1, h2]⟩
  · exact ⟨_, _, h1⟩
/-- a cell of a row -/
theorem row_cell {T : TypeId} {z n g cap : Nat} {xs : List Value} {w : World} (h : w.ownsRow 0 T z (.slice (some ⟨g, 0, none⟩) n cap) n xs) {j : Nat} {u : Value} (hj : xs[j]? = some u) : w.cell? ⟨g, j, none⟩ = some u := by
  have hl : j < xs.length := (List.getElem?_eq_some_iff.1 hj).1
  rcases h.2 with ⟨h1, _⟩ | ⟨g', cap', cur, h1, h2, h3, h4, h5, h6, h7⟩
  · cases h1
  · injection h1 with e1 e2 e3
    injection e1 with e1
    injection e1 with e1
    subst e1
    rw [blk_cell h3]
    rw [← h7, List.getElem?_take] at hj
    split at hj
    · simpa using hj
    · cases hj
theorem row_free {T : TypeId} {z n g cap : Nat} {xs : List Value} {w : World} (h : w.ownsRow 0 T z (.slice (some ⟨g, 0, none⟩) n cap) n xs) (j : Nat) : w.frozen? ⟨g, j, none⟩ = false := by
  obtain ⟨cur, hb⟩ := row_lt h (g := g) rfl
  exact blk_free hb j
/-- a cell of a row is written -/
theorem row_set {T : TypeId} {z n g cap : Nat} {xs : List Value} {w : World} (h : w.ownsRow 0 T z (.slice (some ⟨g, 0, none⟩) n cap) n xs) (j : Nat) (u : Value) :
    (w.setCell ⟨g, j, none⟩ u).ownsRow 0 T z (.slice (some ⟨g, 0, none⟩) n cap) n (xs.set j u) := by
  refine ⟨by rw [List.length_set]; exact h.1, ?_⟩
  rcases h.2 with ⟨h1, _⟩ | ⟨g', cap', cur, h1, h2, h3, h4, h5, h6, h7⟩
  · cases h1
  · injection h1 with e1 e2 e3
    injection e1 with e1
    injection e1 with e1
    subst e1 e3
    refine .inr ⟨g, cap, cur.setIfInBounds j u, rfl, h2, blk_set (show Blk g T cur w from h3) j u, h4, h5, by simp [h6], ?_⟩
    rw [Array.toList_setIfInBounds, List.take_set, h7]

/-! maps from texts to numbers -/
theorem keyS : Maps.Keyed Tryz.prog 9 := Maps.string_keyed (by kernel_rfl)
theorem underSt : Tryz.prog.underlying 9 = some .string := by kernel_rfl
theorem underIn : Tryz.prog.underlying 3 = some (.int .i64) := by kernel_rfl
theorem zeroIn (w : World) : (zeroValue 3).run Tryz.prog w = .ok (.int .i64 0) w := by kernel_rfl
def lit (s : ByteArray) : Lit := .string s.data.toList
theorem lit_inj {s t : ByteArray} (h : lit s = lit t) : s = t := by
  unfold lit at h
  injection h with h
  cases s; cases t
  simp at h
  rw [h]
theorem keyOf_lit {s : ByteArray} (h : s.size ≤ maxLen) : keyOf Tryz.prog 9 (.string s) = some (lit s) := WideMaps.keyOf_string_mk underSt h

/-- block m is a map from texts to numbers: f tells them, c how many there are -/
def MapN (m : Nat) (f : ByteArray → Option Int) (c : Nat) (w : World) : Prop :=
  ∃ D : DataW Unit, w.ownsMap Tryz.prog 9 (plainElem Tryz.prog 3) m c D ∧ Maps.size D = c ∧
    ∀ s : ByteArray, s.size ≤ maxLen → Maps.has D (lit s) = (f s).isSome ∧ ∀ i, f s = some i → D.atKey (lit s) (.lit (.int .i64 0)) = .lit (.int .i64 i)
theorem own_tight {m n : Nat} {D : DataW Unit} {w : World} (h : w.ownsMap Tryz.prog 9 (plainElem Tryz.prog 3) m n D) : w.ownsMap Tryz.prog 9 (plainElem Tryz.prog 3) m (Maps.size D) D := by
  obtain ⟨es, clock, hb, F, hs, rfl⟩ := h
  exact ⟨es, clock, hb, F, by simp [Maps.size, length_sorted], rfl⟩
theorem mapN_new (w : World) : MapN w.heap.size (fun _ => none) 0 (w.alloc (.map #[] 0)) :=
  ⟨.map [], World.ownsMap_made w _ _ _, rfl, fun s _ => ⟨rfl, fun i h => by cases h⟩⟩
theorem mapN_block {m c : Nat} {f : ByteArray → Option Int} {w : World} (h : MapN m f c w) : ∃ es clock, w.heap[m]? = some (.map es clock) := by
  obtain ⟨D, ⟨es, clock, hb, _⟩, _⟩ := h
  exact ⟨es, clock, hb⟩
theorem mapN_lt {m c : Nat} {f : ByteArray → Option Int} {w : World} (h : MapN m f c w) : m < w.heap.size := by
  obtain ⟨D, ho, _⟩ := h
  exact ho.lt
theorem mapN_keep {m c : Nat} {f : ByteArray → Option Int} {a b : World} (h : MapN m f c a) (hk : b.heap[m]? = a.heap[m]?) : MapN m f c b := by
  obtain ⟨D, ⟨es, clock, hb, r⟩, h2⟩ := h
  exact ⟨D, ⟨es, clock, hk.trans hb, r⟩, h2⟩
theorem mapN_ext {m c : Nat} {f g : ByteArray → Option Int} {w : World} (h : MapN m f c w) (e : ∀ s, f s = g s) : MapN m g c w := by
  rw [show g = f from funext fun s => (e s).symm]; exact h
set_option maxRecDepth 100000 in
/-- v, ok := m[s] -/
theorem gm_look {T : TypeId} (ht : Tryz.prog.underlying T = some (.map 9 3)) {ops : Array Oper} {rest : List Oper} {o : Oper} {a : Act} {Q : Exit → Act → World → Prop} {w : World} (hg : o.guard = none) (mo x : Operand) (hop : o.op = Op.lookup T mo x true)
    (m c : Nat) (f : ByteArray → Option Int) (s : ByteArray) (hm : a.eval mo = .map (some m)) (hM : MapN m f c w) (hx : a.eval x = .string s) (hs : s.size ≤ maxLen)
    (hK : wpList Tryz.prog ops Q rest (a.put o.dst (.tuple #[.int .i64 ((f s).getD 0), .bool (f s).isSome])) w) : wpList Tryz.prog ops Q (o :: rest) a w := by
  obtain ⟨D, ho, hc, hf⟩ := hM
  obtain ⟨h1, h2⟩ := hf s hs
  refine wpList_lookup_own_ok_int w hg mo x _ hop _ _ .i64 keyS ht underIn (zeroIn _) m c D hm ho _ (lit s) hx (keyOf_lit hs) ?_
  intro v hat _
  have e : v = (f s).getD 0 := by
    cases hfs : f s with
    | none =>
      rw [hfs] at h1
      rw [Maps.atKey_of_not_has h1] at hat
      injection hat with hat; injection hat with _ hat
      exact hat.symm
    | some i =>
      have h3 := (h2 i hfs).symm.trans hat
      injection h3 with h3; injection h3 with _ h3
      exact h3.symm
  rw [e, h1]
  exact hK
/-- len(m) -/
theorem gm_len {T : TypeId} (ht : Tryz.prog.underlying T = some (.map 9 3)) {ops : Array Oper} {rest : List Oper} {o : Oper} {a : Act} {Q : Exit → Act → World → Prop} {w : World} (hg : o.guard = none) (mo : Operand) (hop : o.op = Op.call { callee := Callee.builtin Builtin.len, args := #[mo], argTypes := #[T] })
    (m c : Nat) (f : ByteArray → Option Int) (hm : a.eval mo = .map (some m)) (hM : MapN m f c w)
    (hK : wpList Tryz.prog ops Q rest (a.put o.dst (.int .i64 c)) w) : wpList Tryz.prog ops Q (o :: rest) a w := by
  obtain ⟨D, ho, hc, hf⟩ := hM
  exact wpList_len_own w hg mo _ hop _ _ ht _ m c D hm ho (by rw [hc]; exact hK)
theorem gm_run {T : TypeId} (ht : Tryz.prog.underlying T = some (.map 9 3)) {m c : Nat} {f : ByteArray → Option Int} {w : World} (hM : MapN m f c w) (ty : TypeId) : (Builtin.len_ #[T] ty #[.map (some m)]).run Tryz.prog w = .ok (.int .i64 c) w := by
  obtain ⟨D, ho, hc, hf⟩ := hM
  rw [ho.len ht ty, hc]
/-- m[s] = i -/
def putF (f : ByteArray → Option Int) (s : ByteArray) (i : Int) (x : ByteArray) : Option Int := if x = s then some i else f x
def delF (f : ByteArray → Option Int) (s : ByteArray) (x : ByteArray) : Option Int := if x = s then none else f x
theorem isKey_lit (s : ByteArray) : WideAt.IsKeyLit (lit s) := trivial
theorem gm_oput {T : TypeId} (ht : Tryz.prog.underlying T = some (.map 9 3)) {o : Oper} {a : Act} {K : Act → World → Prop} {Q : Exit → Act → World → Prop} {w : World} (mo x v : Operand) (hop : o.op = Op.mapUpdate T mo x v)
    (m c : Nat) (f : ByteArray → Option Int) (s : ByteArray) (i : Int) (hm : a.eval mo = .map (some m)) (hM : MapN m f c w) (hc : c < maxLen) (hx : a.eval x = .string s) (hs : s.size ≤ maxLen) (hv : a.eval v = .int .i64 i) (hi : (Lit.int .i64 i).wf = true)
    (hK : ∀ w', MapN m (putF f s i) (if (f s).isSome then c else c + 1) w' → w.grownBy w' (some m) → K (a.put o.dst undef) w') : o.wp Tryz.prog a w K Q := by
  obtain ⟨D, ho, hz, hf⟩ := hM
  obtain ⟨w', hrun, r1, r2⟩ := ho.update keyS ht hc (keyOf_lit hs) (plainElem_int underIn hi)
  unfold Oper.wp
  simp [execOp, hop, hm, hx, hv, hrun, Result.andThen]
  have hsz : Maps.size (D.put (lit s) (.lit (.int .i64 i))) = if (f s).isSome then c else c + 1 := by
    rw [Maps.size_put (ho.tidy keyS), (hf s hs).1, hz]
  refine hK w' ⟨_, by rw [← hsz]; exact own_tight r1, hsz, fun y hy => ?_⟩ r2
  by_cases hys : y = s
  · subst hys
    refine ⟨by rw [Maps.has_put_same ho.isMap (isKey_lit y)]; simp [putF], fun j hj => ?_⟩
    rw [Maps.atKey_put_same ho.isMap (isKey_lit y)]
    simp [putF] at hj
    rw [hj]
  · have hne : lit y ≠ lit s := fun e => hys (lit_inj e)
    refine ⟨by rw [Maps.has_put_other hne, (hf y hy).1]; simp [putF, hys], fun j hj => ?_⟩
    rw [Maps.atKey_put_other hne]
    simp [putF, hys] at hj
    exact (hf y hy).2 j hj
theorem gm_put {T : TypeId} (ht : Tryz.prog.underlying T = some (.map 9 3)) {ops : Array Oper} {rest : List Oper} {o : Oper} {a : Act} {Q : Exit → Act → World → Prop} {w : World} (hg : o.guard = none) (mo x v : Operand) (hop : o.op = Op.mapUpdate T mo x v)
    (m c : Nat) (f : ByteArray → Option Int) (s : ByteArray) (i : Int) (hm : a.eval mo = .map (some m)) (hM : MapN m f c w) (hc : c < maxLen) (hx : a.eval x = .string s) (hs : s.size ≤ maxLen) (hv : a.eval v = .int .i64 i) (hi : (Lit.int .i64 i).wf = true)
    (hK : ∀ w', MapN m (putF f s i) (if (f s).isSome then c else c + 1) w' → w.grownBy w' (some m) → wpList Tryz.prog ops Q rest (a.put o.dst undef) w') : wpList Tryz.prog ops Q (o :: rest) a w :=
  wpList_plain hg fun _ hK' => gm_oput ht mo x v hop m c f s i hm hM hc hx hs hv hi fun w' h1 h2 => hK' _ _ (hK w' h1 h2)
theorem gm_step {T : TypeId} (ht : Tryz.prog.underlying T = some (.map 9 3)) {ops : Array Oper} {o : Oper} {a : Act} {K : Act → World → Prop} {Q : Exit → Act → World → Prop} {E : Prop} {w : World} (hg : o.guard = none) (mo x v : Operand) (hop : o.op = Op.mapUpdate T mo x v)
    (m c : Nat) (f : ByteArray → Option Int) (s : ByteArray) (i : Int) (hm : a.eval mo = .map (some m)) (hM : MapN m f c w) (hc : c < maxLen) (hx : a.eval x = .string s) (hs : s.size ≤ maxLen) (hv : a.eval v = .int .i64 i) (hi : (Lit.int .i64 i).wf = true)
    (hK : ∀ w', MapN m (putF f s i) (if (f s).isSome then c else c + 1) w' → w.grownBy w' (some m) → K (a.put o.dst undef) w') : if Region.wanted o (yielded ops a.tmps) = true then Oper.wp Tryz.prog o a w K Q else E := by
  rw [if_pos (by simp [Region.wanted, hg])]
  exact gm_oput ht mo x v hop m c f s i hm hM hc hx hs hv hi hK
/-- delete(m, s) -/
theorem gm_del {T : TypeId} (ht : Tryz.prog.underlying T = some (.map 9 3)) {ops : Array Oper} {rest : List Oper} {o : Oper} {a : Act} {Q : Exit → Act → World → Prop} {w : World} (hg : o.guard = none) (mo x : Operand)
    (hop : o.op = Op.call { callee := Callee.builtin Builtin.delete, args := #[mo, x], argTypes := #[T, 9] })
    (m c : Nat) (f : ByteArray → Option Int) (s : ByteArray) (hm : a.eval mo = .map (some m)) (hM : MapN m f c w) (hx : a.eval x = .string s) (hs : s.size ≤ maxLen)
    (hK : ∀ w', MapN m (delF f s) (if (f s).isSome then c - 1 else c) w' → w.grownBy w' (some m) → wpList Tryz.prog ops Q rest (a.put o.dst (.tuple #[])) w') : wpList Tryz.prog ops Q (o :: rest) a w := by
  obtain ⟨D, ho, hz, hf⟩ := hM
  refine wpList_delete_own w hg mo x _ _ hop _ keyS ht _ m c D hm ho _ (lit s) hx (keyOf_lit hs) ?_
  intro w' r1 r2
  have hsz : Maps.size (D.del (lit s)) = if (f s).isSome then c - 1 else c := by
    have := Maps.size_del (k := lit s) (ho.tidy keyS)
    rw [(hf s hs).1, hz] at this
    split at this <;> rename_i h1
    · rw [if_pos h1]; omega
    · rw [if_neg h1]; omega
  refine hK w' ⟨_, by rw [← hsz]; exact own_tight r1, hsz, fun y hy => ?_⟩ r2.grown
  by_cases hys : y = s
  · subst hys
    refine ⟨by rw [Maps.has_del_same]; simp [delF], fun j hj => by simp [delF] at hj⟩
  · have hne : lit y ≠ lit s := fun e => hys (lit_inj e)
    refine ⟨by rw [Maps.has_del_other hne, (hf y hy).1]; simp [delF, hys], fun j hj => ?_⟩
    rw [Maps.atKey_del_other hne]
    simp [delF, hys] at hj
    exact (hf y hy).2 j hj

end Go.Proofs.YtimhgbcanmgajaaGreat
