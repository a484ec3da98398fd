/- Maps from numbers to numbers. Shapes as a plain list: a prototype, and names. -/
import Derived.Test.YtemidicgipebjaaGreatMapG
namespace Go.Proofs.YtemidicgipebjaaGreat
open Go.RowKit

/-! maps from numbers to numbers -/
theorem keyI : Maps.Keyed Tryz.prog 3 := Maps.int_keyed underIn
def litI (s : Int) : Lit := .int .i64 s
/-- a number that there is -/
def I64 (x : Int) : Prop := -9223372036854775808 ≤ x ∧ x ≤ 9223372036854775807
theorem I64.wf {x : Int} (h : I64 x) : (Lit.int .i64 x).wf = true := WalkArith.wf_i64 (by unfold I64 at h; omega)
theorem litI_inj {s t : Int} (h : litI s = litI t) : s = t := by
  unfold litI at h
  injection h with _ h
theorem keyOf_litI {s : Int} (h : I64 s) : keyOf Tryz.prog 3 (.int .i64 s) = some (litI s) := Maps.keyOf_int_mk underIn h.wf

/-- block m is a map from numbers to numbers: f tells them, c how many there are -/
def MapI (m : Nat) (f : Int → Option Int) (c : Nat) (w : World) : Prop :=
  ∃ D : DataW Unit, w.ownsMap Tryz.prog 3 (plainElem Tryz.prog 3) m c D ∧ Maps.size D = c ∧
    ∀ s : Int, I64 s → Maps.has D (litI s) = (f s).isSome ∧ ∀ i, f s = some i → D.atKey (litI s) (.lit (.int .i64 0)) = .lit (.int .i64 i)
theorem own_tightI {m n : Nat} {D : DataW Unit} {w : World} (h : w.ownsMap Tryz.prog 3 (plainElem Tryz.prog 3) m n D) : w.ownsMap Tryz.prog 3 (plainElem Tryz.prog 3) m (Maps.size D) D := by
  obtain ⟨es, clock, hb, F, hs, rfl⟩ := h
  exact ⟨es, clock, hb, F, by simp [Maps.size, length_sorted], rfl⟩
theorem mapI_new (w : World) : MapI w.heap.size (fun _ => none) 0 (w.alloc (.map #[] 0)) :=
  ⟨.map [], World.ownsMap_made w _ _ _, rfl, fun s _ => ⟨rfl, fun i h => by cases h⟩⟩
theorem mapI_block {m c : Nat} {f : Int → Option Int} {w : World} (h : MapI m f c w) : ∃ es clock, w.heap[m]? = some (.map es clock) := by
  obtain ⟨D, ⟨es, clock, hb, _⟩, _⟩ := h
  exact ⟨es, clock, hb⟩
theorem mapI_lt {m c : Nat} {f : Int → Option Int} {w : World} (h : MapI m f c w) : m < w.heap.size := by
  obtain ⟨D, ho, _⟩ := h
  exact ho.lt
theorem mapI_keep {m c : Nat} {f : Int → Option Int} {a b : World} (h : MapI m f c a) (hk : b.heap[m]? = a.heap[m]?) : MapI m f c b := by
  obtain ⟨D, ⟨es, clock, hb, r⟩, h2⟩ := h
  exact ⟨D, ⟨es, clock, hk.trans hb, r⟩, h2⟩
theorem mapI_ext {m c : Nat} {f g : Int → Option Int} {w : World} (h : MapI m f c w) (e : ∀ s, f s = g s) : MapI m g c w := by
  rw [show g = f from funext fun s => (e s).symm]; exact h
set_option maxRecDepth 100000 in
/-- v, ok := m[s] -/
theorem gi_look {T : TypeId} (ht : Tryz.prog.underlying T = some (.map 3 3)) {ops : Array Oper} {rest : List Oper} {o : Oper} {a : Act} {Q : Exit → Act → World → Prop} {w : World} (hg : o.guard = none) (mo x : Operand) (hop : o.op = Op.lookup T mo x true)
    (m c : Nat) (f : Int → Option Int) (s : Int) (hm : a.eval mo = .map (some m)) (hM : MapI m f c w) (hx : a.eval x = .int .i64 s) (hs : I64 s)
    (hK : wpList Tryz.prog ops Q rest (a.put o.dst (.tuple #[.int .i64 ((f s).getD 0), .bool (f s).isSome])) w) : wpList Tryz.prog ops Q (o :: rest) a w := by
  obtain ⟨D, ho, hc, hf⟩ := hM
  obtain ⟨h1, h2⟩ := hf s hs
  refine wpList_lookup_own_ok_int w hg mo x _ hop _ _ .i64 keyI ht underIn (zeroIn _) m c D hm ho _ (litI s) hx (keyOf_litI hs) ?_
  intro v hat _
  have e : v = (f s).getD 0 := by
    cases hfs : f s with
    | none =>
      rw [hfs] at h1
      rw [Maps.atKey_of_not_has h1] at hat
      injection hat with hat; injection hat with _ hat
      exact hat.symm
    | some i =>
      have h3 := (h2 i hfs).symm.trans hat
      injection h3 with h3; injection h3 with _ h3
      exact h3.symm
  rw [e, h1]
  exact hK
/-- len(m) -/
theorem gi_len {T : TypeId} (ht : Tryz.prog.underlying T = some (.map 3 3)) {ops : Array Oper} {rest : List Oper} {o : Oper} {a : Act} {Q : Exit → Act → World → Prop} {w : World} (hg : o.guard = none) (mo : Operand) (hop : o.op = Op.call { callee := Callee.builtin Builtin.len, args := #[mo], argTypes := #[T] })
    (m c : Nat) (f : Int → Option Int) (hm : a.eval mo = .map (some m)) (hM : MapI m f c w)
    (hK : wpList Tryz.prog ops Q rest (a.put o.dst (.int .i64 c)) w) : wpList Tryz.prog ops Q (o :: rest) a w := by
  obtain ⟨D, ho, hc, hf⟩ := hM
  exact wpList_len_own w hg mo _ hop _ _ ht _ m c D hm ho (by rw [hc]; exact hK)
theorem gi_run {T : TypeId} (ht : Tryz.prog.underlying T = some (.map 3 3)) {m c : Nat} {f : Int → Option Int} {w : World} (hM : MapI m f c w) (ty : TypeId) : (Builtin.len_ #[T] ty #[.map (some m)]).run Tryz.prog w = .ok (.int .i64 c) w := by
  obtain ⟨D, ho, hc, hf⟩ := hM
  rw [ho.len ht ty, hc]
/-- m[s] = i -/
def putFI (f : Int → Option Int) (s : Int) (i : Int) (x : Int) : Option Int := if x = s then some i else f x
def delFI (f : Int → Option Int) (s : Int) (x : Int) : Option Int := if x = s then none else f x
theorem isKey_litI (s : Int) : WideAt.IsKeyLit (litI s) := trivial
theorem gi_oput {T : TypeId} (ht : Tryz.prog.underlying T = some (.map 3 3)) {o : Oper} {a : Act} {K : Act → World → Prop} {Q : Exit → Act → World → Prop} {w : World} (mo x v : Operand) (hop : o.op = Op.mapUpdate T mo x v)
    (m c : Nat) (f : Int → Option Int) (s : Int) (i : Int) (hm : a.eval mo = .map (some m)) (hM : MapI m f c w) (hc : c < maxLen) (hx : a.eval x = .int .i64 s) (hs : I64 s) (hv : a.eval v = .int .i64 i) (hi : (Lit.int .i64 i).wf = true)
    (hK : ∀ w', MapI m (putFI f s i) (if (f s).isSome then c else c + 1) w' → w.grownBy w' (some m) → K (a.put o.dst undef) w') : o.wp Tryz.prog a w K Q := by
  obtain ⟨D, ho, hz, hf⟩ := hM
  obtain ⟨w', hrun, r1, r2⟩ := ho.update keyI ht hc (keyOf_litI hs) (plainElem_int underIn hi)
  unfold Oper.wp
  simp [execOp, hop, hm, hx, hv, hrun, Result.andThen]
  have hsz : Maps.size (D.put (litI s) (.lit (.int .i64 i))) = if (f s).isSome then c else c + 1 := by
    rw [Maps.size_put (ho.tidy keyI), (hf s hs).1, hz]
  refine hK w' ⟨_, by rw [← hsz]; exact own_tightI r1, hsz, fun y hy => ?_⟩ r2
  by_cases hys : y = s
  · subst hys
    refine ⟨by rw [Maps.has_put_same ho.isMap (isKey_litI y)]; simp [putFI], fun j hj => ?_⟩
    rw [Maps.atKey_put_same ho.isMap (isKey_litI y)]
    simp [putFI] at hj
    rw [hj]
  · have hne : litI y ≠ litI s := fun e => hys (litI_inj e)
    refine ⟨by rw [Maps.has_put_other hne, (hf y hy).1]; simp [putFI, hys], fun j hj => ?_⟩
    rw [Maps.atKey_put_other hne]
    simp [putFI, hys] at hj
    exact (hf y hy).2 j hj
theorem gi_put {T : TypeId} (ht : Tryz.prog.underlying T = some (.map 3 3)) {ops : Array Oper} {rest : List Oper} {o : Oper} {a : Act} {Q : Exit → Act → World → Prop} {w : World} (hg : o.guard = none) (mo x v : Operand) (hop : o.op = Op.mapUpdate T mo x v)
    (m c : Nat) (f : Int → Option Int) (s : Int) (i : Int) (hm : a.eval mo = .map (some m)) (hM : MapI m f c w) (hc : c < maxLen) (hx : a.eval x = .int .i64 s) (hs : I64 s) (hv : a.eval v = .int .i64 i) (hi : (Lit.int .i64 i).wf = true)
    (hK : ∀ w', MapI m (putFI f s i) (if (f s).isSome then c else c + 1) w' → w.grownBy w' (some m) → wpList Tryz.prog ops Q rest (a.put o.dst undef) w') : wpList Tryz.prog ops Q (o :: rest) a w :=
  wpList_plain hg fun _ hK' => gi_oput ht mo x v hop m c f s i hm hM hc hx hs hv hi fun w' h1 h2 => hK' _ _ (hK w' h1 h2)
theorem gi_step {T : TypeId} (ht : Tryz.prog.underlying T = some (.map 3 3)) {ops : Array Oper} {o : Oper} {a : Act} {K : Act → World → Prop} {Q : Exit → Act → World → Prop} {E : Prop} {w : World} (hg : o.guard = none) (mo x v : Operand) (hop : o.op = Op.mapUpdate T mo x v)
    (m c : Nat) (f : Int → Option Int) (s : Int) (i : Int) (hm : a.eval mo = .map (some m)) (hM : MapI m f c w) (hc : c < maxLen) (hx : a.eval x = .int .i64 s) (hs : I64 s) (hv : a.eval v = .int .i64 i) (hi : (Lit.int .i64 i).wf = true)
    (hK : ∀ w', MapI m (putFI f s i) (if (f s).isSome then c else c + 1) w' → w.grownBy w' (some m) → K (a.put o.dst undef) w') : if Region.wanted o (yielded ops a.tmps) = true then Oper.wp Tryz.prog o a w K Q else E := by
  rw [if_pos (by simp [Region.wanted, hg])]
  exact gi_oput ht mo x v hop m c f s i hm hM hc hx hs hv hi hK
/-- delete(m, s) -/
theorem gi_del {T : TypeId} (ht : Tryz.prog.underlying T = some (.map 3 3)) {ops : Array Oper} {rest : List Oper} {o : Oper} {a : Act} {Q : Exit → Act → World → Prop} {w : World} (hg : o.guard = none) (mo x : Operand)
    (hop : o.op = Op.call { callee := Callee.builtin Builtin.delete, args := #[mo, x], argTypes := #[T, 3] })
    (m c : Nat) (f : Int → Option Int) (s : Int) (hm : a.eval mo = .map (some m)) (hM : MapI m f c w) (hx : a.eval x = .int .i64 s) (hs : I64 s)
    (hK : ∀ w', MapI m (delFI f s) (if (f s).isSome then c - 1 else c) w' → w.grownBy w' (some m) → wpList Tryz.prog ops Q rest (a.put o.dst (.tuple #[])) w') : wpList Tryz.prog ops Q (o :: rest) a w := by
  obtain ⟨D, ho, hz, hf⟩ := hM
  refine wpList_delete_own w hg mo x _ _ hop _ keyI ht _ m c D hm ho _ (litI s) hx (keyOf_litI hs) ?_
  intro w' r1 r2
  have hsz : Maps.size (D.del (litI s)) = if (f s).isSome then c - 1 else c := by
    have := Maps.size_del (k := litI s) (ho.tidy keyI)
    rw [(hf s hs).1, hz] at this
    split at this <;> rename_i h1
    · rw [if_pos h1]; omega
    · rw [if_neg h1]; omega
  refine hK w' ⟨_, by rw [← hsz]; exact own_tightI r1, hsz, fun y hy => ?_⟩ r2.grown
  by_cases hys : y = s
  · subst hys
    refine ⟨by rw [Maps.has_del_same]; simp [delFI], fun j hj => by simp [delFI] at hj⟩
  · have hne : litI y ≠ litI s := fun e => hys (litI_inj e)
    refine ⟨by rw [Maps.has_del_other hne, (hf y hy).1]; simp [delFI, hys], fun j hj => ?_⟩
    rw [Maps.atKey_del_other hne]
    simp [delFI, hys] at hj
    exact (hf y hy).2 j hj

end Go.Proofs.YtemidicgipebjaaGreat

namespace Go.Proofs.YtemidicgipebjaaGreat
open Go.RowKit

abbrev Sh := Int × List Int
/-- where a shape stands -/
def atS : List Sh → Sh → Option Nat
  | [], _ => none
  | x :: r, s => if x = s then some 0 else (atS r s).map (· + 1)
theorem atS_at : ∀ {L : List Sh} {s : Sh} {i : Nat}, atS L s = some i → L[i]? = some s
  | [], _, _, h => by cases h
  | x :: r, s, i, h => by
    unfold atS at h
    by_cases hx : x = s
    · rw [if_pos hx] at h; cases h; simp [hx]
    · rw [if_neg hx] at h
      obtain ⟨j, hj, rfl⟩ := Option.map_eq_some_iff.1 h
      simpa using atS_at hj
theorem lt_of_get {α : Type} {L : List α} {s : α} {i : Nat} (h : L[i]? = some s) : i < L.length := (List.getElem?_eq_some_iff.1 h).1
theorem atS_lt {L : List Sh} {s : Sh} {i : Nat} (h : atS L s = some i) : i < L.length := lt_of_get (atS_at h)
theorem atS_no : ∀ {L : List Sh} {s : Sh}, atS L s = none → ∀ i : Nat, L[i]? ≠ some s
  | [], _, _, i, hx => by simp at hx
  | y :: r, s, h, i, hx => by
    unfold atS at h
    by_cases hy : y = s
    · rw [if_pos hy] at h; cases h
    · rw [if_neg hy] at h
      cases i with
      | zero => simp at hx; exact hy hx
      | succ i => exact atS_no (Option.map_eq_none_iff.1 h) i (by simpa using hx)
theorem atS_none {L : List Sh} {s : Sh} (h : ∀ i : Nat, L[i]? ≠ some s) : atS L s = none := by
  cases hh : atS L s with
  | none => rfl
  | some i => exact absurd (atS_at hh) (h i)
theorem atS_snoc : ∀ (L : List Sh) (s x : Sh), atS (L ++ [s]) x = if (atS L x).isSome then atS L x else if s = x then some L.length else none
  | [], s, x => by simp [atS]
  | y :: r, s, x => by
    simp only [List.cons_append, atS, atS_snoc r s x]
    by_cases he : y = x
    · simp [he]
    · simp only [if_neg he]
      rcases Option.eq_none_or_eq_some (atS r x) with h1 | ⟨j, h1⟩ <;> by_cases h : s = x <;> simp [h, h1]

/-- a forest's list: each shape once, behind its parent -/
structure WfS (M : Nat) (L : List Sh) : Prop where
  most : M ≤ 150
  len : L.length ≤ M
  once : ∀ (i j : Nat) (s : Sh), L[i]? = some s → L[j]? = some s → i = j
  up : ∀ (i : Nat) (p : Int) (ns : List Int) (x : Int), L[i]? = some (p, ns ++ [x]) → ∃ j : Nat, j < i ∧ L[j]? = some (p, ns)
  few : ∀ (i : Nat) (s : Sh), L[i]? = some s → s.2.length ≤ 12
  names : ∀ (i : Nat) (s : Sh), L[i]? = some s → s.2.Nodup
  pos : ∀ (i : Nat) (s : Sh), L[i]? = some s → 0 ≤ s.1 ∧ I64 s.1
  fits : ∀ (i : Nat) (s : Sh), L[i]? = some s → ∀ x ∈ s.2, I64 x
theorem WfS.at' {M : Nat} {L : List Sh} {s : Sh} {i : Nat} (h : WfS M L) (hi : L[i]? = some s) : atS L s = some i := by
  cases hh : atS L s with
  | none => exact absurd hi (atS_no hh i)
  | some j => rw [h.once j i s (atS_at hh) hi]
theorem wfS_nil {M : Nat} (h : M ≤ 150) : WfS M [] := ⟨h, Nat.zero_le _, fun _ _ _ h => by simp at h, fun _ _ _ _ h => by simp at h, fun _ _ h => by simp at h, fun _ _ h => by simp at h, fun _ _ h => by simp at h, fun _ _ h => by simp at h⟩
theorem get_snoc {α : Type} {L : List α} {s t : α} {i : Nat} (h : (L ++ [s])[i]? = some t) : L[i]? = some t ∨ (i = L.length ∧ t = s) := by
  rcases Nat.lt_or_ge i L.length with hi | hi
  · rw [List.getElem?_append_left hi] at h; exact .inl h
  · rw [List.getElem?_append_right hi] at h
    have : i - L.length = 0 := by
      have := lt_of_get h
      simp at this
      omega
    rw [this] at h
    simp at h
    exact .inr ⟨by omega, h.symm⟩
theorem snoc_get {α : Type} {L : List α} {t : α} {i : Nat} (s : α) (h : L[i]? = some t) : (L ++ [s])[i]? = some t := by rw [List.getElem?_append_left (lt_of_get h)]; exact h
theorem snoc_last {α : Type} (L : List α) (s : α) : (L ++ [s])[L.length]? = some s := by simp
theorem WfS.snoc {M : Nat} {L : List Sh} {s : Sh} (h : WfS M L) (hl : L.length < M) (hn : atS L s = none) (hu : ∀ p ns x, s = (p, ns ++ [x]) → ∃ j : Nat, L[j]? = some (p, ns)) (hf : s.2.length ≤ 12) (hd : s.2.Nodup) (hp : 0 ≤ s.1 ∧ I64 s.1) (hb : ∀ x ∈ s.2, I64 x) : WfS M (L ++ [s]) := by
  refine ⟨h.most, by simp; omega, ?_, ?_, ?_, ?_, ?_, ?_⟩
  · intro i j t hi hj
    rcases get_snoc hi with h1 | ⟨rfl, rfl⟩ <;> rcases get_snoc hj with h2 | ⟨rfl, e⟩
    · exact h.once i j t h1 h2
    · subst e; exact absurd h1 (atS_no hn i)
    · exact absurd h2 (atS_no hn j)
    · rfl
  · intro i p ns x hi
    rcases get_snoc hi with hi | ⟨rfl, e⟩
    · obtain ⟨j, hj, hg⟩ := h.up i p ns x hi
      exact ⟨j, hj, snoc_get s hg⟩
    · obtain ⟨j, hj⟩ := hu p ns x e.symm
      exact ⟨j, lt_of_get hj, snoc_get s hj⟩
  · intro i t hi
    rcases get_snoc hi with hi | ⟨rfl, rfl⟩
    · exact h.few i t hi
    · exact hf
  · intro i t hi
    rcases get_snoc hi with hi | ⟨rfl, rfl⟩
    · exact h.names i t hi
    · exact hd
  · intro i t hi
    rcases get_snoc hi with hi | ⟨rfl, rfl⟩
    · exact h.pos i t hi
    · exact hp
  · intro i t hi
    rcases get_snoc hi with hi | ⟨rfl, rfl⟩
    · exact h.fits i t hi
    · exact hb

/-- a shape's number; 0: it is not there -/
def numS (L : List Sh) (s : Sh) : Nat := match atS L s with | some i => i + 1 | none => 0
/-- the number of the parent -/
def parS (L : List Sh) (s : Sh) : Nat := if s.2 = [] then 0 else numS L (s.1, s.2.dropLast)
def lastS (s : Sh) : Int := s.2.getLast?.getD 0
/-- what the maps tell -/
def toF (L : List Sh) (s : Sh) : Option Int := (atS L s).map (fun i => ((i + 1 : Nat) : Int))
def rootF (L : List Sh) (p : Int) : Option Int := toF L (p, [])
def nextF (L : List Sh) (s : Sh) (x : Int) : Option Int := toF L (s.1, s.2 ++ [x])
theorem toF_some (L : List Sh) (s : Sh) : (toF L s).isSome = (atS L s).isSome := by unfold toF; cases atS L s <;> rfl
theorem toF_snoc {L : List Sh} {s : Sh} (h : atS L s = none) (t : Sh) : toF (L ++ [s]) t = if t = s then some ((L.length + 1 : Nat) : Int) else toF L t := by
  unfold toF
  rw [atS_snoc]
  by_cases hy : t = s
  · subst hy
    rw [if_pos rfl, h]
    simp
  · rw [if_neg hy]
    rcases Option.eq_none_or_eq_some (atS L t) with h1 | ⟨j, h1⟩
    · rw [h1]; simp [show ¬ s = t from fun e => hy e.symm]
    · rw [h1]; simp
theorem WfS.par {M : Nat} {L : List Sh} {i : Nat} {p : Int} {ns : List Int} {x : Int} (h : WfS M L) (hi : L[i]? = some (p, ns ++ [x])) : ∃ j : Nat, j < i ∧ L[j]? = some (p, ns) ∧ parS L (p, ns ++ [x]) = j + 1 := by
  obtain ⟨j, hj, hg⟩ := h.up i p ns x hi
  refine ⟨j, hj, hg, ?_⟩
  unfold parS
  rw [if_neg (by simp)]
  simp only [List.dropLast_concat]
  unfold numS
  rw [h.at' hg]
theorem parS_root (L : List Sh) (p : Int) : parS L (p, []) = 0 := by simp [parS]
theorem parS_snoc {M : Nat} {L : List Sh} {i : Nat} {s t : Sh} (h : WfS M L) (hi : L[i]? = some t) : parS (L ++ [s]) t = parS L t := by
  obtain ⟨p, ns⟩ := t
  rcases List.eq_nil_or_concat ns with rfl | ⟨ns', x, rfl⟩
  · simp [parS]
  · rw [List.concat_eq_append] at hi ⊢
    obtain ⟨j, _, hg, _⟩ := h.par hi
    unfold parS
    rw [if_neg (by simp), if_neg (by simp)]
    simp only [List.dropLast_concat]
    unfold numS
    rw [atS_snoc, h.at' hg]
    rfl
theorem lastS_snoc (p : Int) (ns : List Int) (x : Int) : lastS (p, ns ++ [x]) = x := by simp [lastS]

/-- a shape of a number -/
def getS (L : List Sh) (id : Int) : Option Sh := if 1 ≤ id then L[(id - 1).toNat]? else none
theorem getS_succ (L : List Sh) (i : Nat) : getS L ((i + 1 : Nat) : Int) = L[i]? := by
  unfold getS
  rw [if_pos (by omega)]
  congr 1
  omega
theorem getS_some {L : List Sh} {id : Int} {s : Sh} (h : getS L id = some s) : ∃ i : Nat, id = ((i + 1 : Nat) : Int) ∧ L[i]? = some s := by
  unfold getS at h
  split at h
  · exact ⟨(id - 1).toNat, by omega, h⟩
  · cases h
theorem getS_none {L : List Sh} {id : Int} (h : getS L id = none) : id < 1 ∨ (L.length : Int) < id := by
  unfold getS at h
  split at h
  · rw [List.getElem?_eq_none_iff] at h; omega
  · omega
theorem getS_out {L : List Sh} {id : Int} (h : id < 1 ∨ (L.length : Int) < id) : getS L id = none := by
  unfold getS
  split
  · rw [List.getElem?_eq_none_iff]; omega
  · rfl

/-! what is made -/
def ofN (M : Nat) (L : List Sh) (s : Sh) : Nat := match atS L s with | some i => i + 1 | none => if M ≤ L.length then 0 else L.length + 1
def ofL (M : Nat) (L : List Sh) (s : Sh) : List Sh := if (atS L s).isSome then L else if M ≤ L.length then L else L ++ [s]
def rootN (M : Nat) (L : List Sh) (p : Int) : Nat := if p < 0 then 0 else ofN M L (p, [])
def rootL (M : Nat) (L : List Sh) (p : Int) : List Sh := if p < 0 then L else ofL M L (p, [])
def addN (M : Nat) (L : List Sh) (id x : Int) : Nat := match getS L id with
  | some s => if 12 ≤ s.2.length ∨ x ∈ s.2 then 0 else ofN M L (s.1, s.2 ++ [x])
  | none => 0
def addL (M : Nat) (L : List Sh) (id x : Int) : List Sh := match getS L id with
  | some s => if 12 ≤ s.2.length ∨ x ∈ s.2 then L else ofL M L (s.1, s.2 ++ [x])
  | none => L
/-- names, one behind the other -/
def addsP (M : Nat) : List Int → Nat × List Sh → Nat × List Sh
  | [], q => q
  | x :: r, q => addsP M r (addN M q.2 q.1 x, addL M q.2 q.1 x)
def moveP (M : Nat) (L : List Sh) (id p : Int) : Nat × List Sh := match getS L id with
  | some s => addsP M s.2 (rootN M L p, rootL M L p)
  | none => (0, L)
theorem WfS.of {M : Nat} {L : List Sh} {s : Sh} (h : WfS M L) (hu : ∀ p ns x, s = (p, ns ++ [x]) → ∃ j : Nat, L[j]? = some (p, ns)) (hf : s.2.length ≤ 12) (hd : s.2.Nodup) (hp : 0 ≤ s.1 ∧ I64 s.1) (hb : ∀ x ∈ s.2, I64 x) : WfS M (ofL M L s) := by
  unfold ofL
  split
  · exact h
  · rename_i h1
    split
    · exact h
    · exact h.snoc (by omega) (by simpa using h1) hu hf hd hp hb
theorem WfS.root {M : Nat} {L : List Sh} {p : Int} (h : WfS M L) (hp : I64 p) : WfS M (rootL M L p) := by
  unfold rootL
  split
  · exact h
  · exact h.of (fun _ _ _ e => by simp at e) (by simp) (by simp) ⟨by simp; omega, hp⟩ (by simp)
theorem WfS.add {M : Nat} {L : List Sh} {id x : Int} (h : WfS M L) (hx : I64 x) : WfS M (addL M L id x) := by
  unfold addL
  split
  · rename_i s hs
    obtain ⟨i, _, hi⟩ := getS_some hs
    split
    · exact h
    · rename_i hn
      refine h.of (fun p ns y e => ?_) (by simp; omega) ?_ (h.pos i s hi) ?_
      · injection e with e1 e2
        have := List.append_inj' e2 rfl
        exact ⟨i, by rw [hi, ← e1, ← this.1]⟩
      · simp only [List.nodup_append]
        refine ⟨h.names i s hi, by simp, fun a ha b hb e => ?_⟩
        simp at hb
        subst hb e
        exact hn (.inr ha)
      · intro y hy
        simp at hy
        rcases hy with hy | rfl
        · exact h.fits i s hi y hy
        · exact hx
  · exact h
theorem ofL_len {M : Nat} {L : List Sh} (s : Sh) : L.length ≤ (ofL M L s).length := by unfold ofL; split; exact Nat.le_refl _; split; exact Nat.le_refl _; simp
theorem ofL_stay {M : Nat} {L : List Sh} {s t : Sh} {i : Nat} (h : L[i]? = some t) : (ofL M L s)[i]? = some t := by
  unfold ofL; split; exact h; split; exact h; exact snoc_get s h
theorem rootL_stay {M : Nat} {L : List Sh} {p : Int} {t : Sh} {i : Nat} (h : L[i]? = some t) : (rootL M L p)[i]? = some t := by
  unfold rootL; split; exact h; exact ofL_stay h
theorem addL_stay {M : Nat} {L : List Sh} {id x : Int} {t : Sh} {i : Nat} (h : L[i]? = some t) : (addL M L id x)[i]? = some t := by
  unfold addL; split; split; exact h; exact ofL_stay h; exact h
theorem addsP_stay {M : Nat} {t : Sh} {i : Nat} : ∀ (xs : List Int) (q : Nat × List Sh), q.2[i]? = some t → (addsP M xs q).2[i]? = some t
  | [], _, h => h
  | _ :: r, _, h => addsP_stay r _ (addL_stay h)
theorem moveP_stay {M : Nat} {L : List Sh} {id p : Int} {t : Sh} {i : Nat} (h : L[i]? = some t) : (moveP M L id p).2[i]? = some t := by
  unfold moveP; split; exact addsP_stay _ _ (rootL_stay h); exact h

/-! from a shape up -/
def upR (L : List Sh) (p : Int) : List Int → List (Int × Int)
  | [] => []
  | x :: r => ((numS L (p, (x :: r).reverse) : Int), x) :: upR L p r
def upS (L : List Sh) (s : Sh) : List (Int × Int) := upR L s.1 s.2.reverse
theorem upS_root (L : List Sh) (p : Int) : upS L (p, []) = [] := rfl
theorem upS_snoc (L : List Sh) (p : Int) (ns : List Int) (x : Int) : upS L (p, ns ++ [x]) = ((numS L (p, ns ++ [x]) : Int), x) :: upS L (p, ns) := by
  simp [upS, upR]
theorem upR_names (L : List Sh) (p : Int) : ∀ r : List Int, (upR L p r).map (·.2) = r
  | [] => rfl
  | x :: r => by simp [upR, upR_names L p r]
theorem upS_names (L : List Sh) (s : Sh) : (upS L s).map (·.2) = s.2.reverse := upR_names L s.1 _
theorem upS_length (L : List Sh) (s : Sh) : (upS L s).length = s.2.length := by
  have := congrArg List.length (upS_names L s)
  simpa using this
/-- each that is told: its number's shape, and which slot it has -/
theorem WfS.told {M : Nat} {L : List Sh} (h : WfS M L) : ∀ (n i : Nat) (s : Sh), s.2.length = n → L[i]? = some s → ∀ y ∈ upS L s, ∃ k j : Nat, s.2[k]? = some y.2 ∧ y.1 = ((j + 1 : Nat) : Int) ∧ L[j]? = some (s.1, s.2.take (k + 1))
  | 0, i, (p, ns), hn, hi, y, hy => by
    have : ns = [] := List.length_eq_zero_iff.1 hn
    subst this
    simp [upS_root] at hy
  | n + 1, i, (p, ns), hn, hi, y, hy => by
    rcases List.eq_nil_or_concat ns with rfl | ⟨ns', x, rfl⟩
    · simp at hn
    · rw [List.concat_eq_append] at hn hi hy ⊢
      obtain ⟨j, hj, hg, _⟩ := h.par hi
      rw [upS_snoc] at hy
      rcases List.mem_cons.1 hy with rfl | hy
      · refine ⟨ns'.length, i, by simp, ?_, ?_⟩
        · simp only []
          unfold numS
          rw [h.at' hi]
        · rw [hi, List.take_of_length_le (by simp)]
      · obtain ⟨k, j', h1, h2, h3⟩ := h.told n j (p, ns') (by simpa using hn) hg y hy
        have hk := lt_of_get h1
        simp only [] at h1 h3 hk ⊢
        refine ⟨k, j', snoc_get x h1, h2, ?_⟩
        rw [h3, List.take_append_of_le_length (by omega)]
/-- a name's slot -/
def slotO : List Int → Int → Option Nat
  | [], _ => none
  | y :: r, x => if y = x then some 0 else (slotO r x).map (· + 1)
theorem slotO_at : ∀ {ns : List Int} {x : Int} {k : Nat}, ns.Nodup → ns[k]? = some x → slotO ns x = some k
  | [], _, _, _, h => by simp at h
  | y :: r, x, 0, _, h => by
    have : y = x := by simpa using h
    simp [slotO, this]
  | y :: r, x, k + 1, hd, h => by
    have h' : r[k]? = some x := by simpa using h
    have hne : y ≠ x := fun e => (List.nodup_cons.1 hd).1 (e ▸ List.mem_of_getElem? h')
    rw [slotO, if_neg hne, slotO_at (List.nodup_cons.1 hd).2 h']
    rfl
theorem slotO_get : ∀ {ns : List Int} {x : Int} {k : Nat}, slotO ns x = some k → ns[k]? = some x
  | [], _, _, h => by cases h
  | y :: r, x, k, h => by
    unfold slotO at h
    by_cases hy : y = x
    · rw [if_pos hy] at h; cases h; simp [hy]
    · rw [if_neg hy] at h
      obtain ⟨j, hj, rfl⟩ := Option.map_eq_some_iff.1 h
      simpa using slotO_get hj
theorem slotO_none : ∀ {ns : List Int} {x : Int}, x ∉ ns → slotO ns x = none
  | [], _, _ => rfl
  | y :: r, x, h => by
    rw [slotO, if_neg (fun e => h (by simp [e])), slotO_none (fun e => h (by simp [e]))]
    rfl
def slotS (ns : List Int) (x : Int) : Int := match slotO ns x with | some k => (k : Int) | none => -1
theorem slotS_at {ns : List Int} {x : Int} {k : Nat} (hd : ns.Nodup) (h : ns[k]? = some x) : slotS ns x = (k : Int) := by
  unfold slotS
  rw [slotO_at hd h]
theorem slotS_none {ns : List Int} {x : Int} (h : x ∉ ns) : slotS ns x = -1 := by
  unfold slotS
  rw [slotO_none h]
theorem slotS_in {ns : List Int} {x : Int} (h : x ∈ ns) : 0 ≤ slotS ns x := by
  unfold slotS
  cases hh : slotO ns x with
  | some k => simp
  | none =>
    exfalso
    induction ns with
    | nil => cases h
    | cons y r ih =>
      unfold slotO at hh
      by_cases hy : y = x
      · rw [if_pos hy] at hh; cases hh
      · rw [if_neg hy] at hh
        rcases List.mem_cons.1 h with e | e
        · exact hy e.symm
        · exact ih e (Option.map_eq_none_iff.1 hh)

end Go.Proofs.YtemidicgipebjaaGreat
