/- Texts that have numbers, as a plain list. Maps from numbers to numbers. Maps of the type that dicts have. -/
import Derived.Test.YtimhgbcanmgajaaGreatMapG
import Derived.Test.YtimhgbcanmgajaaGreatJoint2
namespace Go.Proofs.YtimhgbcanmgajaaGreat
open Go.RowKit

/-- where a text stands -/
def atT : List ByteArray → ByteArray → Option Nat
  | [], _ => none
  | x :: r, s => if x = s then some 0 else (atT r s).map (· + 1)
/-- the map's answer -/
def numF (L : List ByteArray) (s : ByteArray) : Option Int := (atT L s).map (fun i => ((i + 1 : Nat) : Int))
/-- the list behind Of -/
def ofT (L : List ByteArray) (s : ByteArray) : List ByteArray := if (atT L s).isSome then L else L ++ [s]
def numT (L : List ByteArray) (s : ByteArray) : Nat := match atT L s with | some i => i + 1 | none => L.length + 1
def findT (L : List ByteArray) (s : ByteArray) : Nat := match atT L s with | some i => i + 1 | none => 0
theorem atT_at : ∀ {L : List ByteArray} {s : ByteArray} {i : Nat}, atT L s = some i → L[i]? = some s
  | [], _, _, h => by cases h
  | x :: r, s, i, h => by
    unfold atT at h
    by_cases hx : x = s
    · rw [if_pos hx] at h; cases h; simp [hx]
    · rw [if_neg hx] at h
      obtain ⟨j, hj, rfl⟩ := Option.map_eq_some_iff.1 h
      simpa using atT_at hj
theorem atT_lt {L : List ByteArray} {s : ByteArray} {i : Nat} (h : atT L s = some i) : i < L.length := (List.getElem?_eq_some_iff.1 (atT_at h)).1
theorem atT_none : ∀ {L : List ByteArray} {s : ByteArray}, (∀ x ∈ L, x ≠ s) → atT L s = none
  | [], _, _ => rfl
  | x :: r, s, h => by
    unfold atT
    rw [if_neg (h x (by simp)), atT_none (fun y hy => h y (by simp [hy]))]; rfl
theorem atT_no : ∀ {L : List ByteArray} {s : ByteArray}, atT L s = none → ∀ x ∈ L, x ≠ s
  | [], _, _, x, hx => by cases hx
  | y :: r, s, h, x, hx => by
    unfold atT at h
    by_cases hy : y = s
    · rw [if_pos hy] at h; cases h
    · rw [if_neg hy] at h
      rcases List.mem_cons.1 hx with rfl | hx
      · exact hy
      · exact atT_no (Option.map_eq_none_iff.1 h) x hx
theorem atT_first : ∀ {L : List ByteArray} {s : ByteArray} {j : Nat}, (∀ i x, i < j → L[i]? = some x → x ≠ s) → L[j]? = some s → atT L s = some j
  | [], s, j, _, h => by simp at h
  | x :: r, s, 0, _, h => by
    have : x = s := by simpa using h
    simp [atT, this]
  | x :: r, s, j + 1, h1, h2 => by
    have hx : x ≠ s := h1 0 x (by omega) rfl
    have ih := atT_first (L := r) (s := s) (j := j) (fun i e hi he => h1 (i + 1) e (by omega) (by simpa using he)) (by simpa using h2)
    simp [atT, hx, ih]
theorem atT_snoc : ∀ (L : List ByteArray) (s x : ByteArray), atT (L ++ [s]) x = if (atT L x).isSome then atT L x else if s = x then some L.length else none
  | [], s, x => by simp [atT]
  | y :: r, s, x => by
    simp only [List.cons_append, atT, atT_snoc r s x]
    by_cases he : y = x
    · simp [he]
    · simp only [if_neg he]
      rcases Option.eq_none_or_eq_some (atT r x) with h1 | ⟨j, h1⟩ <;> by_cases h : s = x <;> simp [h, h1]
theorem numF_some (L : List ByteArray) (s : ByteArray) : (numF L s).isSome = (atT L s).isSome := by unfold numF; cases atT L s <;> rfl
theorem numF_snoc {L : List ByteArray} {s : ByteArray} (h : atT L s = none) (y : ByteArray) : putF (numF L) s ((L.length + 1 : Nat) : Int) y = numF (L ++ [s]) y := by
  unfold putF numF
  rw [atT_snoc]
  by_cases hy : y = s
  · subst hy
    rw [if_pos rfl, h]
    simp
  · rw [if_neg hy]
    rcases Option.eq_none_or_eq_some (atT L y) with h1 | ⟨j, h1⟩
    · rw [h1]; simp [show ¬ s = y from fun e => hy e.symm]
    · rw [h1]; simp
theorem ofT_at (L : List ByteArray) (s : ByteArray) : atT (ofT L s) s = some (numT L s - 1) ∧ 1 ≤ numT L s ∧ numT L s ≤ (ofT L s).length := by
  unfold ofT numT
  cases h : atT L s with
  | none => simp [atT_snoc, h]
  | some i => have := atT_lt h; simp [h]; omega
theorem ofT_stay {L : List ByteArray} {s y : ByteArray} {i : Nat} (h : atT L s = some i) : atT (ofT L y) s = some i := by
  unfold ofT
  split
  · exact h
  · rw [atT_snoc, h]; rfl
theorem ofT_get {L : List ByteArray} {s y : ByteArray} {i : Nat} (h : L[i]? = some s) : (ofT L y)[i]? = some s := by
  have hl : i < L.length := (List.getElem?_eq_some_iff.1 h).1
  unfold ofT
  split
  · exact h
  · rw [List.getElem?_append_left hl]; exact h
theorem ofT_len (L : List ByteArray) (s : ByteArray) : (ofT L s).length ≤ L.length + 1 ∧ L.length ≤ (ofT L s).length := by
  unfold ofT; split <;> simp
/-- each text once -/
theorem ofT_once {L : List ByteArray} {s : ByteArray} (h : L.Nodup) : (ofT L s).Nodup := by
  unfold ofT
  split
  · exact h
  · rename_i hn
    have hn' : atT L s = none := by simpa using hn
    rw [List.nodup_append]
    refine ⟨h, by simp, fun a ha b hb => ?_⟩
    simp at hb
    subst hb
    exact atT_no hn' a ha

end Go.Proofs.YtimhgbcanmgajaaGreat

namespace Go.Proofs.YtimhgbcanmgajaaGreat
open Go.RowKit

/-! maps from numbers to numbers -/
theorem keyI : Maps.Keyed Tryz.prog 3 := Maps.int_keyed underIn
def litI (s : Int) : Lit := .int .i64 s
/-- a number that there is -/
def I64 (x : Int) : Prop := -9223372036854775808 ≤ x ∧ x ≤ 9223372036854775807
theorem I64.wf {x : Int} (h : I64 x) : (Lit.int .i64 x).wf = true := WalkArith.wf_i64 (by unfold I64 at h; omega)
theorem litI_inj {s t : Int} (h : litI s = litI t) : s = t := by
  unfold litI at h
  injection h with _ h
theorem keyOf_litI {s : Int} (h : I64 s) : keyOf Tryz.prog 3 (.int .i64 s) = some (litI s) := Maps.keyOf_int_mk underIn h.wf

/-- block m is a map from numbers to numbers: f tells them, c how many there are -/
def MapI (m : Nat) (f : Int → Option Int) (c : Nat) (w : World) : Prop :=
  ∃ D : DataW Unit, w.ownsMap Tryz.prog 3 (plainElem Tryz.prog 3) m c D ∧ Maps.size D = c ∧
    ∀ s : Int, I64 s → Maps.has D (litI s) = (f s).isSome ∧ ∀ i, f s = some i → D.atKey (litI s) (.lit (.int .i64 0)) = .lit (.int .i64 i)
theorem own_tightI {m n : Nat} {D : DataW Unit} {w : World} (h : w.ownsMap Tryz.prog 3 (plainElem Tryz.prog 3) m n D) : w.ownsMap Tryz.prog 3 (plainElem Tryz.prog 3) m (Maps.size D) D := by
  obtain ⟨es, clock, hb, F, hs, rfl⟩ := h
  exact ⟨es, clock, hb, F, by simp [Maps.size, length_sorted], rfl⟩
theorem mapI_new (w : World) : MapI w.heap.size (fun _ => none) 0 (w.alloc (.map #[] 0)) :=
  ⟨.map [], World.ownsMap_made w _ _ _, rfl, fun s _ => ⟨rfl, fun i h => by cases h⟩⟩
theorem mapI_block {m c : Nat} {f : Int → Option Int} {w : World} (h : MapI m f c w) : ∃ es clock, w.heap[m]? = some (.map es clock) := by
  obtain ⟨D, ⟨es, clock, hb, _⟩, _⟩ := h
  exact ⟨es, clock, hb⟩
theorem mapI_lt {m c : Nat} {f : Int → Option Int} {w : World} (h : MapI m f c w) : m < w.heap.size := by
  obtain ⟨D, ho, _⟩ := h
  exact ho.lt
theorem mapI_keep {m c : Nat} {f : Int → Option Int} {a b : World} (h : MapI m f c a) (hk : b.heap[m]? = a.heap[m]?) : MapI m f c b := by
  obtain ⟨D, ⟨es, clock, hb, r⟩, h2⟩ := h
  exact ⟨D, ⟨es, clock, hk.trans hb, r⟩, h2⟩
theorem mapI_ext {m c : Nat} {f g : Int → Option Int} {w : World} (h : MapI m f c w) (e : ∀ s, f s = g s) : MapI m g c w := by
  rw [show g = f from funext fun s => (e s).symm]; exact h
set_option maxRecDepth 100000 in
/-- v, ok := m[s] -/
theorem gi_look {T : TypeId} (ht : Tryz.prog.underlying T = some (.map 3 3)) {ops : Array Oper} {rest : List Oper} {o : Oper} {a : Act} {Q : Exit → Act → World → Prop} {w : World} (hg : o.guard = none) (mo x : Operand) (hop : o.op = Op.lookup T mo x true)
    (m c : Nat) (f : Int → Option Int) (s : Int) (hm : a.eval mo = .map (some m)) (hM : MapI m f c w) (hx : a.eval x = .int .i64 s) (hs : I64 s)
    (hK : wpList Tryz.prog ops Q rest (a.put o.dst (.tuple #[.int .i64 ((f s).getD 0), .bool (f s).isSome])) w) : wpList Tryz.prog ops Q (o :: rest) a w := by
  obtain ⟨D, ho, hc, hf⟩ := hM
  obtain ⟨h1, h2⟩ := hf s hs
  refine wpList_lookup_own_ok_int w hg mo x _ hop _ _ .i64 keyI ht underIn (zeroIn _) m c D hm ho _ (litI s) hx (keyOf_litI hs) ?_
  intro v hat _
  have e : v = (f s).getD 0 := by
    cases hfs : f s with
    | none =>
      rw [hfs] at h1
      rw [Maps.atKey_of_not_has h1] at hat
      injection hat with hat; injection hat with _ hat
      exact hat.symm
    | some i =>
      have h3 := (h2 i hfs).symm.trans hat
      injection h3 with h3; injection h3 with _ h3
      exact h3.symm
  rw [e, h1]
  exact hK
/-- len(m) -/
theorem gi_len {T : TypeId} (ht : Tryz.prog.underlying T = some (.map 3 3)) {ops : Array Oper} {rest : List Oper} {o : Oper} {a : Act} {Q : Exit → Act → World → Prop} {w : World} (hg : o.guard = none) (mo : Operand) (hop : o.op = Op.call { callee := Callee.builtin Builtin.len, args := #[mo], argTypes := #[T] })
    (m c : Nat) (f : Int → Option Int) (hm : a.eval mo = .map (some m)) (hM : MapI m f c w)
    (hK : wpList Tryz.prog ops Q rest (a.put o.dst (.int .i64 c)) w) : wpList Tryz.prog ops Q (o :: rest) a w := by
  obtain ⟨D, ho, hc, hf⟩ := hM
  exact wpList_len_own w hg mo _ hop _ _ ht _ m c D hm ho (by rw [hc]; exact hK)
theorem gi_run {T : TypeId} (ht : Tryz.prog.underlying T = some (.map 3 3)) {m c : Nat} {f : Int → Option Int} {w : World} (hM : MapI m f c w) (ty : TypeId) : (Builtin.len_ #[T] ty #[.map (some m)]).run Tryz.prog w = .ok (.int .i64 c) w := by
  obtain ⟨D, ho, hc, hf⟩ := hM
  rw [ho.len ht ty, hc]
/-- m[s] = i -/
def putFI (f : Int → Option Int) (s : Int) (i : Int) (x : Int) : Option Int := if x = s then some i else f x
def delFI (f : Int → Option Int) (s : Int) (x : Int) : Option Int := if x = s then none else f x
theorem isKey_litI (s : Int) : WideAt.IsKeyLit (litI s) := trivial
theorem gi_oput {T : TypeId} (ht : Tryz.prog.underlying T = some (.map 3 3)) {o : Oper} {a : Act} {K : Act → World → Prop} {Q : Exit → Act → World → Prop} {w : World} (mo x v : Operand) (hop : o.op = Op.mapUpdate T mo x v)
    (m c : Nat) (f : Int → Option Int) (s : Int) (i : Int) (hm : a.eval mo = .map (some m)) (hM : MapI m f c w) (hc : c < maxLen) (hx : a.eval x = .int .i64 s) (hs : I64 s) (hv : a.eval v = .int .i64 i) (hi : (Lit.int .i64 i).wf = true)
    (hK : ∀ w', MapI m (putFI f s i) (if (f s).isSome then c else c + 1) w' → w.grownBy w' (some m) → K (a.put o.dst undef) w') : o.wp Tryz.prog a w K Q := by
  obtain ⟨D, ho, hz, hf⟩ := hM
  obtain ⟨w', hrun, r1, r2⟩ := ho.update keyI ht hc (keyOf_litI hs) (plainElem_int underIn hi)
  unfold Oper.wp
  simp [execOp, hop, hm, hx, hv, hrun, Result.andThen]
  have hsz : Maps.size (D.put (litI s) (.lit (.int .i64 i))) = if (f s).isSome then c else c + 1 := by
    rw [Maps.size_put (ho.tidy keyI), (hf s hs).1, hz]
  refine hK w' ⟨_, by rw [← hsz]; exact own_tightI r1, hsz, fun y hy => ?_⟩ r2
  by_cases hys : y = s
  · subst hys
    refine ⟨by rw [Maps.has_put_same ho.isMap (isKey_litI y)]; simp [putFI], fun j hj => ?_⟩
    rw [Maps.atKey_put_same ho.isMap (isKey_litI y)]
    simp [putFI] at hj
    rw [hj]
  · have hne : litI y ≠ litI s := fun e => hys (litI_inj e)
    refine ⟨by rw [Maps.has_put_other hne, (hf y hy).1]; simp [putFI, hys], fun j hj => ?_⟩
    rw [Maps.atKey_put_other hne]
    simp [putFI, hys] at hj
    exact (hf y hy).2 j hj
theorem gi_put {T : TypeId} (ht : Tryz.prog.underlying T = some (.map 3 3)) {ops : Array Oper} {rest : List Oper} {o : Oper} {a : Act} {Q : Exit → Act → World → Prop} {w : World} (hg : o.guard = none) (mo x v : Operand) (hop : o.op = Op.mapUpdate T mo x v)
    (m c : Nat) (f : Int → Option Int) (s : Int) (i : Int) (hm : a.eval mo = .map (some m)) (hM : MapI m f c w) (hc : c < maxLen) (hx : a.eval x = .int .i64 s) (hs : I64 s) (hv : a.eval v = .int .i64 i) (hi : (Lit.int .i64 i).wf = true)
    (hK : ∀ w', MapI m (putFI f s i) (if (f s).isSome then c else c + 1) w' → w.grownBy w' (some m) → wpList Tryz.prog ops Q rest (a.put o.dst undef) w') : wpList Tryz.prog ops Q (o :: rest) a w :=
  wpList_plain hg fun _ hK' => gi_oput ht mo x v hop m c f s i hm hM hc hx hs hv hi fun w' h1 h2 => hK' _ _ (hK w' h1 h2)
theorem gi_step {T : TypeId} (ht : Tryz.prog.underlying T = some (.map 3 3)) {ops : Array Oper} {o : Oper} {a : Act} {K : Act → World → Prop} {Q : Exit → Act → World → Prop} {E : Prop} {w : World} (hg : o.guard = none) (mo x v : Operand) (hop : o.op = Op.mapUpdate T mo x v)
    (m c : Nat) (f : Int → Option Int) (s : Int) (i : Int) (hm : a.eval mo = .map (some m)) (hM : MapI m f c w) (hc : c < maxLen) (hx : a.eval x = .int .i64 s) (hs : I64 s) (hv : a.eval v = .int .i64 i) (hi : (Lit.int .i64 i).wf = true)
    (hK : ∀ w', MapI m (putFI f s i) (if (f s).isSome then c else c + 1) w' → w.grownBy w' (some m) → K (a.put o.dst undef) w') : if Region.wanted o (yielded ops a.tmps) = true then Oper.wp Tryz.prog o a w K Q else E := by
  rw [if_pos (by simp [Region.wanted, hg])]
  exact gi_oput ht mo x v hop m c f s i hm hM hc hx hs hv hi hK
/-- delete(m, s) -/
theorem gi_del {T : TypeId} (ht : Tryz.prog.underlying T = some (.map 3 3)) {ops : Array Oper} {rest : List Oper} {o : Oper} {a : Act} {Q : Exit → Act → World → Prop} {w : World} (hg : o.guard = none) (mo x : Operand)
    (hop : o.op = Op.call { callee := Callee.builtin Builtin.delete, args := #[mo, x], argTypes := #[T, 3] })
    (m c : Nat) (f : Int → Option Int) (s : Int) (hm : a.eval mo = .map (some m)) (hM : MapI m f c w) (hx : a.eval x = .int .i64 s) (hs : I64 s)
    (hK : ∀ w', MapI m (delFI f s) (if (f s).isSome then c - 1 else c) w' → w.grownBy w' (some m) → wpList Tryz.prog ops Q rest (a.put o.dst (.tuple #[])) w') : wpList Tryz.prog ops Q (o :: rest) a w := by
  obtain ⟨D, ho, hz, hf⟩ := hM
  refine wpList_delete_own w hg mo x _ _ hop _ keyI ht _ m c D hm ho _ (litI s) hx (keyOf_litI hs) ?_
  intro w' r1 r2
  have hsz : Maps.size (D.del (litI s)) = if (f s).isSome then c - 1 else c := by
    have := Maps.size_del (k := litI s) (ho.tidy keyI)
    rw [(hf s hs).1, hz] at this
    split at this <;> rename_i h1
    · rw [if_pos h1]; omega
    · rw [if_neg h1]; omega
  refine hK w' ⟨_, by rw [← hsz]; exact own_tightI r1, hsz, fun y hy => ?_⟩ r2.grown
  by_cases hys : y = s
  · subst hys
    refine ⟨by rw [Maps.has_del_same]; simp [delFI], fun j hj => by simp [delFI] at hj⟩
  · have hne : litI y ≠ litI s := fun e => hys (litI_inj e)
    refine ⟨by rw [Maps.has_del_other hne, (hf y hy).1]; simp [delFI, hys], fun j hj => ?_⟩
    rw [Maps.atKey_del_other hne]
    simp [delFI, hys] at hj
    exact (hf y hy).2 j hj

end Go.Proofs.YtimhgbcanmgajaaGreat

namespace Go.Proofs.YtimhgbcanmgajaaGreat
open Go.RowKit

theorem underM : Tryz.prog.underlying 223 = some (.map 9 3) := by kernel_rfl
theorem wp_mlook {ops : Array Oper} {rest : List Oper} {o : Oper} {a : Act} {Q : Exit → Act → World → Prop} {w : World} (hg : o.guard = none) (mo x : Operand) (hop : o.op = Op.lookup 223 mo x true)
    (m c : Nat) (f : ByteArray → Option Int) (s : ByteArray) (hm : a.eval mo = .map (some m)) (hM : MapN m f c w) (hx : a.eval x = .string s) (hs : s.size ≤ maxLen)
    (hK : wpList Tryz.prog ops Q rest (a.put o.dst (.tuple #[.int .i64 ((f s).getD 0), .bool (f s).isSome])) w) : wpList Tryz.prog ops Q (o :: rest) a w := gm_look underM hg mo x hop m c f s hm hM hx hs hK
theorem wp_mlen {ops : Array Oper} {rest : List Oper} {o : Oper} {a : Act} {Q : Exit → Act → World → Prop} {w : World} (hg : o.guard = none) (mo : Operand) (hop : o.op = Op.call { callee := Callee.builtin Builtin.len, args := #[mo], argTypes := #[223] })
    (m c : Nat) (f : ByteArray → Option Int) (hm : a.eval mo = .map (some m)) (hM : MapN m f c w)
    (hK : wpList Tryz.prog ops Q rest (a.put o.dst (.int .i64 c)) w) : wpList Tryz.prog ops Q (o :: rest) a w := gm_len underM hg mo hop m c f hm hM hK
theorem run_mlen {m c : Nat} {f : ByteArray → Option Int} {w : World} (hM : MapN m f c w) (ty : TypeId) : (Builtin.len_ #[223] ty #[.map (some m)]).run Tryz.prog w = .ok (.int .i64 c) w := gm_run underM hM ty
theorem wpo_mput {o : Oper} {a : Act} {K : Act → World → Prop} {Q : Exit → Act → World → Prop} {w : World} (mo x v : Operand) (hop : o.op = Op.mapUpdate 223 mo x v)
    (m c : Nat) (f : ByteArray → Option Int) (s : ByteArray) (i : Int) (hm : a.eval mo = .map (some m)) (hM : MapN m f c w) (hc : c < maxLen) (hx : a.eval x = .string s) (hs : s.size ≤ maxLen) (hv : a.eval v = .int .i64 i) (hi : (Lit.int .i64 i).wf = true)
    (hK : ∀ w', MapN m (putF f s i) (if (f s).isSome then c else c + 1) w' → w.grownBy w' (some m) → K (a.put o.dst undef) w') : o.wp Tryz.prog a w K Q := gm_oput underM mo x v hop m c f s i hm hM hc hx hs hv hi hK
theorem wp_mput {ops : Array Oper} {rest : List Oper} {o : Oper} {a : Act} {Q : Exit → Act → World → Prop} {w : World} (hg : o.guard = none) (mo x v : Operand) (hop : o.op = Op.mapUpdate 223 mo x v)
    (m c : Nat) (f : ByteArray → Option Int) (s : ByteArray) (i : Int) (hm : a.eval mo = .map (some m)) (hM : MapN m f c w) (hc : c < maxLen) (hx : a.eval x = .string s) (hs : s.size ≤ maxLen) (hv : a.eval v = .int .i64 i) (hi : (Lit.int .i64 i).wf = true)
    (hK : ∀ w', MapN m (putF f s i) (if (f s).isSome then c else c + 1) w' → w.grownBy w' (some m) → wpList Tryz.prog ops Q rest (a.put o.dst undef) w') : wpList Tryz.prog ops Q (o :: rest) a w := gm_put underM hg mo x v hop m c f s i hm hM hc hx hs hv hi hK
theorem step_mput {ops : Array Oper} {o : Oper} {a : Act} {K : Act → World → Prop} {Q : Exit → Act → World → Prop} {E : Prop} {w : World} (hg : o.guard = none) (mo x v : Operand) (hop : o.op = Op.mapUpdate 223 mo x v)
    (m c : Nat) (f : ByteArray → Option Int) (s : ByteArray) (i : Int) (hm : a.eval mo = .map (some m)) (hM : MapN m f c w) (hc : c < maxLen) (hx : a.eval x = .string s) (hs : s.size ≤ maxLen) (hv : a.eval v = .int .i64 i) (hi : (Lit.int .i64 i).wf = true)
    (hK : ∀ w', MapN m (putF f s i) (if (f s).isSome then c else c + 1) w' → w.grownBy w' (some m) → K (a.put o.dst undef) w') : if Region.wanted o (yielded ops a.tmps) = true then Oper.wp Tryz.prog o a w K Q else E := gm_step underM hg mo x v hop m c f s i hm hM hc hx hs hv hi hK
theorem wp_mdel {ops : Array Oper} {rest : List Oper} {o : Oper} {a : Act} {Q : Exit → Act → World → Prop} {w : World} (hg : o.guard = none) (mo x : Operand)
    (hop : o.op = Op.call { callee := Callee.builtin Builtin.delete, args := #[mo, x], argTypes := #[223, 9] })
    (m c : Nat) (f : ByteArray → Option Int) (s : ByteArray) (hm : a.eval mo = .map (some m)) (hM : MapN m f c w) (hx : a.eval x = .string s) (hs : s.size ≤ maxLen)
    (hK : ∀ w', MapN m (delF f s) (if (f s).isSome then c - 1 else c) w' → w.grownBy w' (some m) → wpList Tryz.prog ops Q rest (a.put o.dst (.tuple #[])) w') : wpList Tryz.prog ops Q (o :: rest) a w := gm_del underM hg mo x hop m c f s hm hM hx hs hK

end Go.Proofs.YtimhgbcanmgajaaGreat
