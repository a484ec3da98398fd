/- Places with holes, in memory. New places, and a new dict. A block of a call's own that its answer, a value, goes into. What a dict has at a name, and how many. A property is set. Set, as a dict has it. Pressing, and a property that is let go. Delete, Clone, Key and Names, as a dict has them. -/
import Derived.Test.YtemidicgipebjaaGreatDcMem
import Derived.BigQuiet
import Derived.Test.YtemidicgipebjaaGreatProg
import Derived.Test.YtemidicgipebjaaGreatGround
namespace Go.Proofs.YtemidicgipebjaaGreat
set_option linter.unusedSimpArgs false
set_option maxRecDepth 100000
open Go.RowKit

def cellsO : Option Ent → List Value
  | none => [.bool false, .string ⟨#[]⟩, .int .i64 0, .int .i64 0, .string ⟨#[]⟩]
  | some e => [.bool true, .string e.1, .int .i64 e.2.1, .int .i64 e.2.2.1, .string e.2.2.2]
def cellsP (L : Pls) : List Value := L.flatMap cellsO
theorem cellsO_len (o : Option Ent) : (cellsO o).length = 5 := by cases o <;> rfl
theorem cellsP_len : ∀ L : Pls, (cellsP L).length = L.length * 5
  | [] => rfl
  | o :: r => by
    have := cellsP_len r
    simp only [cellsP, List.flatMap_cons, List.length_append, cellsO_len, List.length_cons] at this ⊢
    omega
theorem cellsP_append (L M : Pls) : cellsP (L ++ M) = cellsP L ++ cellsP M := by simp [cellsP]
theorem cellsP_at : ∀ {L : Pls} {i j : Nat} {o : Option Ent}, L[i]? = some o → j < 5 → (cellsP L)[i * 5 + j]? = (cellsO o)[j]?
  | [], i, j, o, h, _ => by simp at h
  | x :: r, 0, j, o, h, hj => by
    simp at h
    subst h
    show (cellsO x ++ cellsP r)[0 * 5 + j]? = _
    rw [Nat.zero_mul, Nat.zero_add, List.getElem?_append_left (by rw [cellsO_len]; exact hj)]
  | x :: r, i + 1, j, o, h, hj => by
    show (cellsO x ++ cellsP r)[(i + 1) * 5 + j]? = _
    rw [List.getElem?_append_right (by rw [cellsO_len]; omega), cellsO_len, show (i + 1) * 5 + j - 5 = i * 5 + j by omega]
    exact cellsP_at (by simpa using h) hj
theorem cellsO_one (o : Option Ent) : ∀ u ∈ cellsO o, u.oneCell' = true := by
  intro u hu
  cases o <;> simp [cellsO] at hu <;> rcases hu with rfl | rfl | rfl | rfl | rfl <;> rfl
/-- a place is written over -/
theorem cellsP_set : ∀ {L : Pls} {i : Nat} (o : Option Ent), i < L.length → ∀ {a b c d e : Value}, cellsO o = [a, b, c, d, e] →
    (((((cellsP L).set (i * 5) a).set (i * 5 + 1) b).set (i * 5 + 2) c).set (i * 5 + 3) d).set (i * 5 + 4) e = cellsP (L.set i o)
  | [], i, o, h, _, _, _, _, _, _ => by simp at h
  | x :: r, 0, o, h, a, b, c, d, e, he => by
    have hx : ∃ p q s t u, cellsO x = [p, q, s, t, u] := by cases x <;> exact ⟨_, _, _, _, _, rfl⟩
    obtain ⟨p, q, s, t, u, hx⟩ := hx
    show (((((cellsO x ++ cellsP r).set (0 * 5) a).set (0 * 5 + 1) b).set (0 * 5 + 2) c).set (0 * 5 + 3) d).set (0 * 5 + 4) e = cellsO o ++ cellsP r
    rw [hx, he]; rfl
  | x :: r, i + 1, o, h, a, b, c, d, e, he => by
    have hx : ∃ p q s t u, cellsO x = [p, q, s, t, u] := by cases x <;> exact ⟨_, _, _, _, _, rfl⟩
    obtain ⟨p, q, s, t, u, hx⟩ := hx
    have ih := cellsP_set (L := r) (i := i) o (by simpa using h) he
    show (((((cellsO x ++ cellsP r).set ((i + 1) * 5) a).set ((i + 1) * 5 + 1) b).set ((i + 1) * 5 + 2) c).set ((i + 1) * 5 + 3) d).set ((i + 1) * 5 + 4) e = cellsO x ++ cellsP (r.set i o)
    rw [← ih, hx, show (i + 1) * 5 = i * 5 + 1 + 1 + 1 + 1 + 1 by omega, show i * 5 + 1 + 1 + 1 + 1 + 1 + 1 = (i * 5 + 1) + 1 + 1 + 1 + 1 + 1 by omega]
    rfl
theorem set_same {l : List Value} {i : Nat} {u : Value} (h : l[i]? = some u) : l.set i u = l := by
  apply List.ext_getElem?
  intro j
  rw [List.getElem?_set]
  split
  · rename_i e
    subst e
    split
    · exact h.symm
    · rename_i h2
      rw [List.getElem?_eq_none (by omega)]
  · rfl
/-- .. its value alone -/
theorem cellsP_set3 {L : Pls} {i : Nat} {s : ByteArray} {u : Vl} (h : L[i]? = some (some (s, u))) (v : Vl) :
    ((((cellsP L).set (i * 5 + 2) (.int .i64 v.1)).set (i * 5 + 2 + 1) (.int .i64 v.2.1)).set (i * 5 + 2 + 2) (.string v.2.2)) = cellsP (L.set i (some (s, v))) := by
  have hl : i < L.length := (List.getElem?_eq_some_iff.1 h).1
  rw [← cellsP_set (some (s, v)) hl rfl]
  have e0 : (cellsP L).set (i * 5) (.bool true) = cellsP L := by
    have := cellsP_at (j := 0) h (by omega)
    simp [cellsO] at this
    exact set_same (by simpa using this)
  have e1 : (cellsP L).set (i * 5 + 1) (.string s) = cellsP L := by
    have := cellsP_at (j := 1) h (by omega)
    simp [cellsO] at this
    exact set_same (by simpa using this)
  simp only [e0, e1]

/-- where the map leads -/
def posF (L : Pls) (s : ByteArray) : Option Int := (posL L s).map (fun i => (i : Int))
theorem posF_some (L : Pls) (s : ByteArray) : (posF L s).isSome = hasL (live L) s := by
  rw [← posL_has]; unfold posF; cases posL L s <;> rfl

/-- places at p: their list is v, their map is at m -/
structure PlAt (p : Nat) (v : Value) (m : Nat) (L : Pls) (w : World) : Prop where
  blk : Blk p 181 #[v, .map (some m)] w
  row : w.ownsRow 0 183 5 v L.length (cellsP L)
  map : MapN m (posF L) (live L).length w
  once : OkL (live L)
/-- the blocks that they are made of -/
def FtP (p : Nat) (v : Value) (m : Nat) (b : Nat) : Prop := b = p ∨ b = m ∨ v.ownBlock = some b
theorem PlAt.keep {p m : Nat} {v : Value} {L : Pls} {a c : World} (h : PlAt p v m L a) (hk : ∀ b, FtP p v m b → c.heap[b]? = a.heap[b]?) : PlAt p v m L c :=
  ⟨(hk p (.inl rfl)).trans h.blk, row_keep h.row (fun g hg => hk g (.inr (.inr hg))), mapN_keep h.map (hk m (.inr (.inl rfl))), h.once⟩
theorem PlAt.lt {p m b : Nat} {v : Value} {L : Pls} {w : World} (h : PlAt p v m L w) (hb : FtP p v m b) : b < w.heap.size := by
  rcases hb with rfl | rfl | hb
  · exact blk_lt h.blk
  · exact mapN_lt h.map
  · obtain ⟨cur, hc⟩ := row_lt h.row hb
    exact blk_lt hc
theorem PlAt.on {p m : Nat} {v : Value} {L : Pls} {a c : World} (h : PlAt p v m L a) (k : Below a.heap.size a c) : PlAt p v m L c :=
  h.keep fun b hb => k.block b (h.lt hb)
theorem PlAt.ne {p m : Nat} {v : Value} {L : Pls} {w : World} (h : PlAt p v m L w) : m ≠ p ∧ (∀ g, v.ownBlock = some g → g ≠ p ∧ g ≠ m) := by
  obtain ⟨es, clock, hm⟩ := mapN_block h.map
  have hp : w.heap[p]? = _ := h.blk
  refine ⟨fun e => ?_, fun g hg => ⟨fun e => ?_, fun e => ?_⟩⟩
  · rw [e, hp] at hm; cases hm
  · obtain ⟨cur, hc⟩ := row_lt h.row hg
    unfold Blk at hc
    rw [e, hp] at hc; cases hc
  · obtain ⟨cur, hc⟩ := row_lt h.row hg
    unfold Blk at hc
    rw [e, hm] at hc; cases hc
theorem PlAt.drew {p m : Nat} {v : Value} {L : Pls} {w : World} (h : PlAt p v m L w) : PlAt p v m L w.drew := h.on (Below.refl _ _).drew
theorem PlAt.cells {p m : Nat} {v : Value} {L : Pls} {w : World} (h : PlAt p v m L w) : w.cell? ⟨p, 0, none⟩ = some v ∧ w.cell? ⟨p, 1, none⟩ = some (.map (some m)) :=
  ⟨by rw [blk_cell h.blk]; rfl, by rw [blk_cell h.blk]; rfl⟩

theorem yield_mlen {o : Oper} {a : Act} {w : World} {mo : Operand} {m c : Nat} {f : ByteArray → Option Int} (hop : o.op = Op.call { callee := Callee.builtin Builtin.len, args := #[mo], argTypes := #[154] })
    (hm : a.eval mo = .map (some m)) (hM : MapN m f c w) : (execOp a.eval o).run Tryz.prog w = .ok (.value (.int .i64 c)) w := by
  simp [execOp, hop, resolve, invoke, builtin, hm, run_mlen hM, Result.andThen]
theorem count_calls {p m : Nat} {v : Value} {L : Pls} (w : World) (h : PlAt p v m L w) :
    Calls Tryz.prog 143 #[.pointer (some ⟨p, 0, none⟩)] w fun e w' => e = .returned (.int .i64 (live L).length) ∧ w' = w := by
  have H := hid h.map
  obtain ⟨c0, c1⟩ := h.cells
  clear h
  go_enter Tryz.func143, Tryz.ntmps143
  go_wp2_with (first | (at_len; refine wp_mlen rfl _ rfl m _ _ rfl H.out ?_) | fail)
  go_ret
  exact ⟨rfl, rfl⟩

theorem holes_calls {p m : Nat} {v : Value} {L : Pls} (w : World) (h : PlAt p v m L w) (hf : L.length ≤ 1000000) :
    Calls Tryz.prog 133 #[.pointer (some ⟨p, 0, none⟩)] w fun e w' => e = .returned (.int .i64 ((L.length - (live L).length : Nat) : Int)) ∧ Below w.heap.size w w' := by
  have HL := live_len L
  have HX := hid h
  obtain ⟨ao, cap, rfl⟩ := row_shape h.row
  have HC := hid h.cells
  have e1 : IntKind.i64.wrap ((L.length : Int) - ((live L).length : Int)) = ((L.length - (live L).length : Nat) : Int) := by
    rw [IntKind.wrap_i64]; omega
  clear h
  go_enter Tryz.func133, Tryz.ntmps133
  go_wp2_with fail
  refine wp_region_held_drew (S := fun a => a = w.drew) (by kernel_rfl) rfl (fun hHeld => ?_)
  refine wpAnyH_take (i := 0) (v := ?v1) rfl (by kernel_rfl) (by kernel_rfl) (by kernel_rfl) (fun _ _ _ h => h) (Or.inl ⟨by rfl, ?hy1⟩) (by assumption) ?_
  case hy1 => (intro w hSw; go_simp <;> (try with_reducible rfl))
  simp only [Act.put, List.setIfInBounds_toArray, List.set_cons_zero, List.set_cons_succ, List.getElem_toArray, List.getElem_cons_succ, List.getElem_cons_zero]
  refine wpAnyH_take (i := 1) (v := ?v2) rfl (by kernel_rfl) (by kernel_rfl) (by kernel_rfl) (fun _ _ _ h => h) (Or.inl ⟨by rfl, ?hy2⟩) (by assumption) ?_
  case hy2 => (intro w hSw; go_simp <;> (try with_reducible rfl))
  simp only [Act.put, List.setIfInBounds_toArray, List.set_cons_zero, List.set_cons_succ, List.getElem_toArray, List.getElem_cons_succ, List.getElem_cons_zero]
  refine wpAnyH_take (i := 2) (v := ?v3) rfl (by kernel_rfl) (by kernel_rfl) (by kernel_rfl) (fun _ _ _ h => h) (Or.inl ⟨by rfl, ?hy3⟩) (by assumption) ?_
  case hy3 => (intro w hSw; go_simp <;> (try with_reducible rfl))
  simp only [Act.put, List.setIfInBounds_toArray, List.set_cons_zero, List.set_cons_succ, List.getElem_toArray, List.getElem_cons_succ, List.getElem_cons_zero]
  refine wpAnyH_take (i := 3) (v := ?v4) rfl (by kernel_rfl) (by kernel_rfl) (by kernel_rfl) (fun _ _ _ h => h) (Or.inl ⟨by rfl, ?hy4⟩) (by assumption) ?_
  case hy4 => (intro a hSw; subst hSw; obtain ⟨c0, c1⟩ := HC.out; go_simp <;> (try with_reducible rfl))
  simp only [Act.put, List.setIfInBounds_toArray, List.set_cons_zero, List.set_cons_succ, List.getElem_toArray, List.getElem_cons_succ, List.getElem_cons_zero]
  refine wpAnyH_take (i := 4) (v := ?v5) rfl (by kernel_rfl) (by kernel_rfl) (by kernel_rfl) (fun _ _ _ h => h) (Or.inl ⟨by rfl, ?hy5⟩) (by assumption) ?_
  case hy5 => (intro w hSw; go_simp <;> (try with_reducible rfl))
  simp only [Act.put, List.setIfInBounds_toArray, List.set_cons_zero, List.set_cons_succ, List.getElem_toArray, List.getElem_cons_succ, List.getElem_cons_zero]
  refine wpAnyH_take (i := 5) (v := ?v6) rfl (by kernel_rfl) (by kernel_rfl) (by kernel_rfl) (fun _ _ _ h => h) (Or.inl ⟨by rfl, ?hy6⟩) (by assumption) ?_
  case hy6 => (intro w hSw; go_simp <;> (try with_reducible rfl))
  simp only [Act.put, List.setIfInBounds_toArray, List.set_cons_zero, List.set_cons_succ, List.getElem_toArray, List.getElem_cons_succ, List.getElem_cons_zero]
  refine wpAnyH_take (i := 6) (v := ?v7) rfl (by kernel_rfl) (by kernel_rfl) (by kernel_rfl) (fun _ _ _ h => h) (Or.inl ⟨by rfl, ?hy7⟩) (by assumption) ?_
  case hy7 => (intro w hSw; go_simp <;> (try with_reducible rfl))
  simp only [Act.put, List.setIfInBounds_toArray, List.set_cons_zero, List.set_cons_succ, List.getElem_toArray, List.getElem_cons_succ, List.getElem_cons_zero]
  refine wpAnyH_take (i := 7) (v := ?v8) rfl (by kernel_rfl) (by kernel_rfl) (by kernel_rfl) (fun _ _ _ h => h) (Or.inl ⟨by rfl, ?hy8⟩) (by assumption) ?_
  case hy8 => (intro w hSw; go_simp <;> (try with_reducible rfl))
  simp only [Act.put, List.setIfInBounds_toArray, List.set_cons_zero, List.set_cons_succ, List.getElem_toArray, List.getElem_cons_succ, List.getElem_cons_zero]
  refine wpAnyH_take (i := 8) (v := ?v9) rfl (by kernel_rfl) (by kernel_rfl) (by kernel_rfl) (fun _ _ _ h => h) (Or.inl ⟨by rfl, ?hy9⟩) (by assumption) ?_
  case hy9 => (intro a hSw; subst hSw; obtain ⟨c0, c1⟩ := HC.out; go_simp <;> (try with_reducible rfl))
  simp only [Act.put, List.setIfInBounds_toArray, List.set_cons_zero, List.set_cons_succ, List.getElem_toArray, List.getElem_cons_succ, List.getElem_cons_zero]
  refine wpAnyH_take (i := 9) (v := ?v10) rfl (by kernel_rfl) (by kernel_rfl) (by kernel_rfl) (fun _ _ _ h => h) (Or.inl ⟨by rfl, ?hy10⟩) (by assumption) ?_
  case hy10 => (intro a hSw; subst hSw; refine yield_mlen (mo := .tmp 11) ?_ ?_ HX.out.drew.map <;> rfl)
  simp only [Act.put, List.setIfInBounds_toArray, List.set_cons_zero, List.set_cons_succ, List.getElem_toArray, List.getElem_cons_succ, List.getElem_cons_zero]
  refine wpAnyH_take (i := 10) (v := ?v11) rfl (by kernel_rfl) (by kernel_rfl) (by kernel_rfl) (fun _ _ _ h => h) (Or.inl ⟨by rfl, ?hy11⟩) (by assumption) ?_
  case hy11 => (intro w hSw; go_simp <;> (try with_reducible rfl))
  simp only [Act.put, List.setIfInBounds_toArray, List.set_cons_zero, List.set_cons_succ, List.getElem_toArray, List.getElem_cons_succ, List.getElem_cons_zero]
  refine wpAnyH_take (i := 11) (v := ?v12) rfl (by kernel_rfl) (by kernel_rfl) (by kernel_rfl) (fun _ _ _ h => h) (Or.inl ⟨by rfl, ?hy12⟩) (by assumption) ?_
  case hy12 => (intro w hSw; go_simp <;> (try with_reducible rfl))
  simp only [Act.put, List.setIfInBounds_toArray, List.set_cons_zero, List.set_cons_succ, List.getElem_toArray, List.getElem_cons_succ, List.getElem_cons_zero]
  refine wpAnyH_done (by kernel_rfl) ?_ _
  go_wp2
  go_ret
  exact ⟨rfl, (Below.refl _ _).drew⟩

end Go.Proofs.YtemidicgipebjaaGreat

namespace Go.Proofs.YtemidicgipebjaaGreat
set_option linter.unusedSimpArgs false
set_option maxRecDepth 100000
open Go.RowKit

theorem infoP : ∃ i0, Tryz.prog.info? 183 = some i0 ∧ i0.zero = some (.agg #[.bool false, .string ⟨#[]⟩, .int .i64 0, .int .i64 0, .string ⟨#[]⟩]) ∧ i0.size = 5 ∧ i0.bytes = 56 :=
  info_parts (show (Tryz.prog.info? 183).map (fun i => (i.zero, i.size, i.bytes)) = some (some (.agg #[.bool false, .string ⟨#[]⟩, .int .i64 0, .int .i64 0, .string ⟨#[]⟩]), 5, 56) by kernel_rfl)
theorem underP : Tryz.prog.underlying 179 = some (.slice 183) := by kernel_rfl
theorem infoS : ∃ i0, Tryz.prog.info? 9 = some i0 ∧ i0.zero = some (.string ⟨#[]⟩) ∧ i0.size = 1 ∧ i0.bytes = 16 :=
  info_parts (show (Tryz.prog.info? 9).map (fun i => (i.zero, i.size, i.bytes)) = some (some (.string ⟨#[]⟩), 1, 16) by kernel_rfl)
theorem underS : Tryz.prog.underlying 62 = some (.slice 9) := by kernel_rfl

/-- make([]T, 0, c) as a step of a region that draws -/
theorem step_make {ops : Array Oper} {o : Oper} {a : Act} {K : Act → World → Prop} {Q : Exit → Act → World → Prop} {E : Prop} {w : World} (hg : o.guard = none) (x y : Operand) (t e : TypeId) (hop : o.op = Op.makeSlice t x y)
    (i : TypeInfo) (z : Value) (size bytes c : Nat) (ht : Tryz.prog.underlying t = some (.slice e)) (hi : Tryz.prog.info? e = some i) (hz : i.zero = some z) (hs : i.size = size) (hb : i.bytes = bytes) (hx : a.eval x = .int .i64 0) (hy : a.eval y = .int .i64 (c : Int))
    (hc : c ≤ 1000000) (hsm : bytes ≤ 1000)
    (hK : ∀ cur : Array Value, cur.size = c * size → K (a.put o.dst (.slice (some ⟨w.heap.size, 0, none⟩) 0 c)) (w.alloc (.cells cur e))) : if Region.wanted o (yielded ops a.tmps) = true then Oper.wp Tryz.prog o a w K Q else E := by
  rw [if_pos (by simp [Region.wanted, hg])]
  have hb2 : (i.bytes : Int) * (c : Int) ≤ 281474976710656 := by
    rw [hb]
    have h1 : ((bytes * c : Nat) : Int) ≤ ((1000 * 1000000 : Nat) : Int) := Int.ofNat_le.2 (Nat.mul_le_mul hsm hc)
    rw [Int.natCast_mul] at h1
    omega
  have hr := run_make (P := Tryz.prog) w t e i z ht hi hz .i64 .i64 0 c (Int.le_refl _) (by omega) hb2 (by omega)
  simp only [Int.toNat_zero, Int.toNat_natCast] at hr
  unfold Oper.wp
  simp [execOp, hop, hx, hy, hr, Result.andThen]
  exact hK _ (by rw [size_madeCells, hs])
theorem wp_make {ops : Array Oper} {rest : List Oper} {o : Oper} {a : Act} {Q : Exit → Act → World → Prop} {w : World} (hg : o.guard = none) (x y : Operand) (t e : TypeId) (hop : o.op = Op.makeSlice t x y)
    (i : TypeInfo) (z : Value) (size bytes c : Nat) (ht : Tryz.prog.underlying t = some (.slice e)) (hi : Tryz.prog.info? e = some i) (hz : i.zero = some z) (hs : i.size = size) (hb : i.bytes = bytes) (hx : a.eval x = .int .i64 0) (hy : a.eval y = .int .i64 (c : Int))
    (hc : c ≤ 1000000) (hsm : bytes ≤ 1000)
    (hK : ∀ cur : Array Value, cur.size = c * size → wpList Tryz.prog ops Q rest (a.put o.dst (.slice (some ⟨w.heap.size, 0, none⟩) 0 c)) (w.alloc (.cells cur e))) : wpList Tryz.prog ops Q (o :: rest) a w :=
  wpList_plain hg fun _ hK' => by
    have := step_make (ops := ops) (E := False) (Q := Q) hg x y t e hop i z size bytes c ht hi hz hs hb hx hy hc hsm (fun cur hcur => hK' _ _ (hK cur hcur))
    rwa [if_pos (by simp [Region.wanted, hg])] at this
/-- make(map[string]int, n) -/
theorem step_mmap {ops : Array Oper} {o : Oper} {a : Act} {K : Act → World → Prop} {Q : Exit → Act → World → Prop} {E : Prop} {w : World} (hg : o.guard = none) (y : Operand) (hop : o.op = Op.makeMap 154 (some y))
    (c : Nat) (hy : a.eval y = .int .i64 (c : Int))
    (hK : K (a.put o.dst (.map (some w.heap.size))) (w.alloc (.map #[] 0))) : if Region.wanted o (yielded ops a.tmps) = true then Oper.wp Tryz.prog o a w K Q else E := by
  rw [if_pos (by simp [Region.wanted, hg])]
  unfold Oper.wp
  simp [execOp, hop, hy, Instr.makeMap, Result.andThen]
  exact hK
theorem row_made {T : TypeId} {z c g : Nat} {cur : Array Value} {w : World} (h : Blk g T cur w) (hc : cur.size = c * z) (hl : c ≤ 1000000) : w.ownsRow 0 T z (.slice (some ⟨g, 0, none⟩) 0 c) 0 [] :=
  ⟨by simp, .inr ⟨g, c, cur, rfl, Nat.zero_le _, h, Nat.zero_le _, by unfold maxLen; omega, hc, by simp⟩⟩

theorem new_one {w : World} {cur : Array Value} {c : Nat} (hcur : cur.size = c * 5) (hc : c ≤ 1000000) {g m p : Nat} (hg : g = w.heap.size) (hm : m = w.heap.size + 1) (hp : p = w.heap.size + 1 + 1) :
    ∃ v' m', PlAt p v' m' [] (((w.alloc (.cells cur 183)).alloc (.map #[] 0)).alloc (.cells #[.slice (some ⟨g, 0, none⟩) 0 c, .map (some m)] 181)).drew ∧
      Below w.heap.size w (((w.alloc (.cells cur 183)).alloc (.map #[] 0)).alloc (.cells #[.slice (some ⟨g, 0, none⟩) 0 c, .map (some m)] 181)).drew ∧ ∀ b, FtP p v' m' b → w.heap.size ≤ b := by
  subst hg hm hp
  have b1 := (Below.refl w.heap.size w).alloc (Nat.le_refl _) (.cells cur 183)
  have b2 := b1.alloc (by simp) (.map #[] 0)
  have b3 := b2.alloc (by simp; omega) (.cells #[.slice (some ⟨w.heap.size, 0, none⟩) 0 c, .map (some (w.heap.size + 1))] 181)
  have h2 : Below (w.alloc (.cells cur 183)).heap.size (w.alloc (.cells cur 183)) (((w.alloc (.cells cur 183)).alloc (.map #[] 0)).alloc (.cells #[.slice (some ⟨w.heap.size, 0, none⟩) 0 c, .map (some (w.heap.size + 1))] 181)).drew :=
    (((Below.refl _ _).alloc (Nat.le_refl _) _).alloc (by simp) _).drew
  refine ⟨_, w.heap.size + 1, ⟨?_, row_made (blk_on (blk_new w _ cur) h2) hcur hc, ?_, okL_nil⟩, b3.drew, ?_⟩
  · have := blk_new ((w.alloc (.cells cur 183)).alloc (.map #[] 0)) 181 #[.slice (some ⟨w.heap.size, 0, none⟩) 0 c, .map (some (w.heap.size + 1))]
    simp only [World.size_alloc] at this
    exact this
  · have := mapN_new (w.alloc (.cells cur 183))
    simp only [World.size_alloc] at this
    exact mapN_keep this ((((Below.refl _ _).alloc (Nat.le_refl _) _).drew).block _ (by simp))
  · rintro b (rfl | rfl | h)
    · omega
    · omega
    · simp [Value.ownBlock] at h; omega
theorem new_other {w : World} {cur : Array Value} {c : Nat} (hcur : cur.size = c * 5) (hc : c ≤ 1000000) {g m p : Nat} (hm : m = w.heap.size) (hg : g = w.heap.size + 1) (hp : p = w.heap.size + 1 + 1) :
    ∃ v' m', PlAt p v' m' [] (((w.alloc (.map #[] 0)).alloc (.cells cur 183)).alloc (.cells #[.slice (some ⟨g, 0, none⟩) 0 c, .map (some m)] 181)).drew ∧
      Below w.heap.size w (((w.alloc (.map #[] 0)).alloc (.cells cur 183)).alloc (.cells #[.slice (some ⟨g, 0, none⟩) 0 c, .map (some m)] 181)).drew ∧ ∀ b, FtP p v' m' b → w.heap.size ≤ b := by
  subst hg hm hp
  have b1 := (Below.refl w.heap.size w).alloc (Nat.le_refl _) (.map #[] 0)
  have b2 := b1.alloc (by simp) (.cells cur 183)
  have b3 := b2.alloc (by simp; omega) (.cells #[.slice (some ⟨w.heap.size + 1, 0, none⟩) 0 c, .map (some w.heap.size)] 181)
  have hb := blk_new (w.alloc (.map #[] 0)) 183 cur
  simp only [World.size_alloc] at hb
  refine ⟨_, w.heap.size, ⟨?_, row_made (blk_on hb (((Below.refl _ _).alloc (Nat.le_refl _) _).drew)) hcur hc, ?_, okL_nil⟩, b3.drew, ?_⟩
  · have := blk_new ((w.alloc (.map #[] 0)).alloc (.cells cur 183)) 181 #[.slice (some ⟨w.heap.size + 1, 0, none⟩) 0 c, .map (some w.heap.size)]
    simp only [World.size_alloc] at this
    exact this
  · exact mapN_keep (mapN_new w) ((((Below.refl _ _).alloc (Nat.le_refl _) _).alloc (by simp) _).drew.block _ (by simp))
  · rintro b (rfl | rfl | h)
    · omega
    · omega
    · simp [Value.ownBlock] at h; omega

set_option maxHeartbeats 1000000 in
theorem noPlaces_calls (c : Nat) (hc : c ≤ 1000000) (w : World) :
    Calls Tryz.prog 114 #[.int .i64 (c : Int)] w fun e w' => ∃ p v m, e = .returned (.pointer (some ⟨p, 0, none⟩)) ∧ PlAt p v m [] w' ∧ Below w.heap.size w w' ∧ ∀ b, FtP p v m b → w.heap.size ≤ b := by
  obtain ⟨i0, hi, hz0, hz1, hz2⟩ := infoP
  go_enter Tryz.func114, Tryz.ntmps114
  go_wp2_with fail
  refine wp_region_held_drew (S := fun _ => True) (by kernel_rfl) trivial (fun hHeld => ?_)
  refine wpAnyH_take (i := 0) (v := ?v1) rfl (by kernel_rfl) (by kernel_rfl) (by kernel_rfl) (fun _ _ _ h => h) (Or.inl ⟨by rfl, ?hy1⟩) (by assumption) ?_
  case hy1 => (intro w hSw; go_simp <;> (try with_reducible rfl))
  simp only [Act.put, List.setIfInBounds_toArray, List.set_cons_zero, List.set_cons_succ, List.getElem_toArray, List.getElem_cons_succ, List.getElem_cons_zero]
  refine wpAnyH_take (i := 2) (v := ?v2) rfl (by kernel_rfl) (by kernel_rfl) (by kernel_rfl) (fun _ _ _ h => h) (Or.inl ⟨by rfl, ?hy2⟩) (by assumption) ?_
  case hy2 => (intro w hSw; go_simp <;> (try with_reducible rfl))
  simp only [Act.put, List.setIfInBounds_toArray, List.set_cons_zero, List.set_cons_succ, List.getElem_toArray, List.getElem_cons_succ, List.getElem_cons_zero]
  refine wpAnyH_ready (rs := [1, 3]) (by kernel_rfl) (by simp) ?_
  refine AllReadyH.cons rfl (fun K hK => ?_) (AllReadyH.cons rfl (fun K hK => ?_) AllReadyH.nil)
  · refine step_make rfl _ _ _ _ rfl i0 _ 5 56 c underP hi hz0 hz1 hz2 rfl rfl hc (by decide) ?_
    intro cur hcur
    refine hK.out _ _ trivial (fun _ => ?_)
    clear hK K
    simp only [Act.put, List.setIfInBounds_toArray, List.set_cons_zero, List.set_cons_succ, List.getElem_toArray, List.getElem_cons_succ, List.getElem_cons_zero]
    refine wpAnyH_ready (rs := [3]) (by kernel_rfl) (by simp) ?_
    refine AllReadyH.cons rfl (fun K hK => ?_) AllReadyH.nil
    refine step_mmap rfl _ rfl c rfl ?_
    refine hK.out _ _ trivial (fun _ => ?_)
    clear hK K
    simp only [Act.put, List.setIfInBounds_toArray, List.set_cons_zero, List.set_cons_succ, List.getElem_toArray, List.getElem_cons_succ, List.getElem_cons_zero]
    refine wpAnyH_take (i := 4) (v := ?v4) rfl (by kernel_rfl) (by kernel_rfl) (by kernel_rfl) (fun _ _ _ h => h) (Or.inl ⟨by rfl, ?hy4⟩) (by assumption) ?_
    case hy4 => (intro w hSw; go_simp <;> (try with_reducible rfl))
    simp only [Act.put, List.setIfInBounds_toArray, List.set_cons_zero, List.set_cons_succ, List.getElem_toArray, List.getElem_cons_succ, List.getElem_cons_zero]
    refine wpAnyH_ready (rs := [5]) (by kernel_rfl) (by simp) ?_
    refine AllReadyH.cons rfl (fun K hK => ?_) AllReadyH.nil
    go_simp
    refine hK.out _ _ trivial (fun _ => ?_)
    clear hK K
    refine wpAnyH_take (i := 6) (v := ?v6) rfl (by kernel_rfl) (by kernel_rfl) (by kernel_rfl) (fun _ _ _ h => h) (Or.inl ⟨by rfl, ?hy6⟩) (by assumption) ?_
    case hy6 => (intro w hSw; go_simp <;> (try with_reducible rfl))
    simp only [Act.put, List.setIfInBounds_toArray, List.set_cons_zero, List.set_cons_succ, List.getElem_toArray, List.getElem_cons_succ, List.getElem_cons_zero]
    refine wpAnyH_done (by kernel_rfl) ?_ _
    go_wp2
    go_ret
    obtain ⟨v', m', h1, h2, h3⟩ := new_one (w := w) hcur hc rfl rfl rfl
    exact ⟨_, _, _, rfl, h1, h2, h3⟩
  · refine step_mmap rfl _ rfl c rfl ?_
    refine hK.out _ _ trivial (fun _ => ?_)
    clear hK K
    simp only [Act.put, List.setIfInBounds_toArray, List.set_cons_zero, List.set_cons_succ, List.getElem_toArray, List.getElem_cons_succ, List.getElem_cons_zero]
    refine wpAnyH_ready (rs := [1]) (by kernel_rfl) (by simp) ?_
    refine AllReadyH.cons rfl (fun K hK => ?_) AllReadyH.nil
    refine step_make rfl _ _ _ _ rfl i0 _ 5 56 c underP hi hz0 hz1 hz2 rfl rfl hc (by decide) ?_
    intro cur hcur
    refine hK.out _ _ trivial (fun _ => ?_)
    clear hK K
    simp only [Act.put, List.setIfInBounds_toArray, List.set_cons_zero, List.set_cons_succ, List.getElem_toArray, List.getElem_cons_succ, List.getElem_cons_zero]
    refine wpAnyH_take (i := 4) (v := ?v8) rfl (by kernel_rfl) (by kernel_rfl) (by kernel_rfl) (fun _ _ _ h => h) (Or.inl ⟨by rfl, ?hy8⟩) (by assumption) ?_
    case hy8 => (intro w hSw; go_simp <;> (try with_reducible rfl))
    simp only [Act.put, List.setIfInBounds_toArray, List.set_cons_zero, List.set_cons_succ, List.getElem_toArray, List.getElem_cons_succ, List.getElem_cons_zero]
    refine wpAnyH_ready (rs := [5]) (by kernel_rfl) (by simp) ?_
    refine AllReadyH.cons rfl (fun K hK => ?_) AllReadyH.nil
    go_simp
    refine hK.out _ _ trivial (fun _ => ?_)
    clear hK K
    refine wpAnyH_take (i := 6) (v := ?v10) rfl (by kernel_rfl) (by kernel_rfl) (by kernel_rfl) (fun _ _ _ h => h) (Or.inl ⟨by rfl, ?hy10⟩) (by assumption) ?_
    case hy10 => (intro w hSw; go_simp <;> (try with_reducible rfl))
    simp only [Act.put, List.setIfInBounds_toArray, List.set_cons_zero, List.set_cons_succ, List.getElem_toArray, List.getElem_cons_succ, List.getElem_cons_zero]
    refine wpAnyH_done (by kernel_rfl) ?_ _
    go_wp2
    go_ret
    obtain ⟨v', m', h1, h2, h3⟩ := new_other (w := w) hcur hc rfl rfl rfl
    exact ⟨_, _, _, rfl, h1, h2, h3⟩

/-- a dict at d, of at most n places, in the blocks of S: it has l -/
def DcS (S : Nat → Prop) (d n : Nat) (l : List Ent) (w : World) : Prop :=
  ∃ p v m L, Blk d 170 #[.pointer (some ⟨p, 0, none⟩)] w ∧ PlAt p v m L w ∧ live L = l ∧ L.length ≤ n ∧ S d ∧ ∀ b, FtP p v m b → S b
theorem DcS.mono {S T : Nat → Prop} {d n k : Nat} {l : List Ent} {w : World} (h : DcS S d n l w) (hS : ∀ b, b < w.heap.size → S b → T b) (hn : n ≤ k) : DcS T d k l w := by
  obtain ⟨p, v, m, L, h1, h2, h3, h4, h5, h6⟩ := h
  exact ⟨p, v, m, L, h1, h2, h3, Nat.le_trans h4 hn, hS d (blk_lt h1) h5, fun b hb => hS b (h2.lt hb) (h6 b hb)⟩
theorem DcS.keep {S T : Nat → Prop} {d n : Nat} {l : List Ent} {a c : World} (h : DcS S d n l a) (k : Keep T a c) (hT : ∀ b, b < a.heap.size → S b → ¬ T b) : DcS S d n l c := by
  obtain ⟨p, v, m, L, h1, h2, h3, h4, h5, h6⟩ := h
  exact ⟨p, v, m, L, blk_keep h1 k (hT d (blk_lt h1) h5), h2.keep (fun b hb => k.block b (h2.lt hb) (hT b (h2.lt hb) (h6 b hb))), h3, h4, h5, h6⟩
theorem DcS.on {S : Nat → Prop} {d n : Nat} {l : List Ent} {a c : World} (h : DcS S d n l a) (k : Below a.heap.size a c) : DcS S d n l c :=
  h.keep (T := fun _ => False) (Keep.of k) (fun _ _ _ h => h)
theorem DcS.lt {S : Nat → Prop} {d n : Nat} {l : List Ent} {w : World} (h : DcS S d n l w) : d < w.heap.size := by
  obtain ⟨p, v, m, L, h1, _⟩ := h
  exact blk_lt h1
theorem DcS.once {S : Nat → Prop} {d n : Nat} {l : List Ent} {w : World} (h : DcS S d n l w) : OkL l ∧ l.length ≤ n := by
  obtain ⟨p, v, m, L, h1, h2, rfl, h4, _⟩ := h
  exact ⟨h2.once, Nat.le_trans (live_len L) h4⟩

theorem new_calls (w : World) :
    Calls Tryz.prog 90 #[] w fun e w' => ∃ d, e = .returned (.pointer (some ⟨d, 0, none⟩)) ∧ DcS (fun b => w.heap.size ≤ b) d 0 [] w' ∧ Below w.heap.size w w' := by
  go_enter Tryz.func90, Tryz.ntmps90
  go_wp2_with fail
  refine (noPlaces_calls 0 (by omega) _).mono ?_
  rintro e1 w1 ⟨p, v, m, rfl, h1, h2, h3⟩
  have H1 := hid h1
  have H2 := hid h2
  clear h1 h2
  go_wp2_with fail
  go_ret
  have hs := H2.out.size
  have k := (Below.refl w1.heap.size w1).alloc (Nat.le_refl _) (.cells #[.pointer (some ⟨p, 0, none⟩)] 170)
  exact ⟨_, rfl, ⟨p, v, m, [], blk_new _ _ _, H1.out.on k, rfl, Nat.le_refl _, hs, h3⟩, H2.out.trans (k.mono hs)⟩
theorem made_calls {S : Nat → Prop} {d n : Nat} {l : List Ent} (w : World) (h : DcS S d n l w) :
    Calls Tryz.prog 117 #[.pointer (some ⟨d, 0, none⟩)] w fun e w' => e = .returned (.bool true) ∧ w' = w := by
  obtain ⟨p, v, m, L, h1, _⟩ := h
  have c0 : w.cell? ⟨d, 0, none⟩ = some (.pointer (some ⟨p, 0, none⟩)) := by rw [blk_cell h1]; rfl
  clear h1
  go_enter Tryz.func117, Tryz.ntmps117
  go_wp2_with fail
  go_ret
  exact ⟨rfl, rfl⟩
theorem made_nil (w : World) :
    Calls Tryz.prog 117 #[.pointer none] w fun e w' => e = .returned (.bool false) ∧ w' = w := by
  go_enter Tryz.func117, Tryz.ntmps117
  go_wp2_with fail
  go_ret
  exact ⟨rfl, rfl⟩
theorem made_zero {d : Nat} (w : World) (h : w.cell? ⟨d, 0, none⟩ = some (.pointer none)) :
    Calls Tryz.prog 117 #[.pointer (some ⟨d, 0, none⟩)] w fun e w' => e = .returned (.bool false) ∧ w' = w := by
  go_enter Tryz.func117, Tryz.ntmps117
  go_wp2_with fail
  go_ret
  exact ⟨rfl, rfl⟩

end Go.Proofs.YtemidicgipebjaaGreat

namespace Go.Proofs.YtemidicgipebjaaGreat
open Go.RowKit

theorem ret_v {fn : Func} {t : Tmp} (h : fn.results = #[.cell t 26]) {tmps : Array Value} {g : Nat} {w : World} {x y z : Value} (ht : tmps.getD t undef = .pointer (some ⟨g, 0, none⟩))
    (c : w.cell? ⟨g, 0, none⟩ = some x ∧ w.cell? ⟨g, 1, none⟩ = some y ∧ w.cell? ⟨g, 2, none⟩ = some z) :
    (results fn tmps).run Tryz.prog w = .ok (.agg #[x, y, z]) w := by
  rw [Array.getD_eq_getD_getElem?] at ht
  simp [results, h, ht, go_sem, asAddr, c.1, c.2.1, c.2.2]

theorem ret_ve {fn : Func} {t u : Tmp} (h : fn.results = #[.cell t 26, .tmp u]) {tmps : Array Value} {g : Nat} {w : World} {x y z : Value} (ht : tmps.getD t undef = .pointer (some ⟨g, 0, none⟩))
    (c : w.cell? ⟨g, 0, none⟩ = some x ∧ w.cell? ⟨g, 1, none⟩ = some y ∧ w.cell? ⟨g, 2, none⟩ = some z) :
    (results fn tmps).run Tryz.prog w = .ok (.tuple #[.agg #[x, y, z], tmps.getD u undef]) w := by
  rw [Array.getD_eq_getD_getElem?] at ht
  simp [results, h, ht, go_sem, asAddr, c.1, c.2.1, c.2.2]

/-- a fresh value stands at block g, and may be written -/
def Slot (g : Nat) (w : World) : Prop :=
  g < w.heap.size ∧ w.cell? ⟨g, 0, none⟩ = some (.int .i64 0) ∧ w.cell? ⟨g, 1, none⟩ = some (.int .i64 0) ∧ w.cell? ⟨g, 2, none⟩ = some (.string ⟨#[]⟩) ∧
    w.frozen? ⟨g, 0, none⟩ = false ∧ w.frozen? ⟨g, 1, none⟩ = false ∧ w.frozen? ⟨g, 2, none⟩ = false

theorem slot_on {g : Nat} {a b : World} (h : Slot g a) (k : Below a.heap.size a b) : Slot g b := by
  obtain ⟨h0, h1, h2, h3, h4, h5, h6⟩ := h
  exact ⟨Nat.lt_of_lt_of_le h0 k.size, (k.cell (p := ⟨g, 0, none⟩) h0).trans h1, (k.cell (p := ⟨g, 1, none⟩) h0).trans h2, (k.cell (p := ⟨g, 2, none⟩) h0).trans h3, (k.frozen (p := ⟨g, 0, none⟩) h0).trans h4, (k.frozen (p := ⟨g, 1, none⟩) h0).trans h5, (k.frozen (p := ⟨g, 2, none⟩) h0).trans h6⟩

theorem slot_new (w : World) {g : Nat} (hg : g = w.heap.size) (t : TypeId) : Slot g (w.alloc (Obj.cells #[.int .i64 0, .int .i64 0, .string ⟨#[]⟩] t)) := by
  subst hg
  refine ⟨by simp, by simp, by simp, by simp, by simp, by simp, by simp⟩

theorem put3 {B g : Nat} {w w1 : World} (h : Below B w w1) (hg : B ≤ g) (x y z : Value) :
    Below B w (((w1.setCell ⟨g, 0, none⟩ x).setCell ⟨g, 1, none⟩ y).setCell ⟨g, 2, none⟩ z) :=
  ((h.setCell hg _).setCell hg _).setCell hg _

theorem put3_cells {g : Nat} {w1 : World} (h : Slot g w1) (x y z : Value) :
    (((w1.setCell ⟨g, 0, none⟩ x).setCell ⟨g, 1, none⟩ y).setCell ⟨g, 2, none⟩ z).cell? ⟨g, 0, none⟩ = some x ∧
    (((w1.setCell ⟨g, 0, none⟩ x).setCell ⟨g, 1, none⟩ y).setCell ⟨g, 2, none⟩ z).cell? ⟨g, 1, none⟩ = some y ∧
    (((w1.setCell ⟨g, 0, none⟩ x).setCell ⟨g, 1, none⟩ y).setCell ⟨g, 2, none⟩ z).cell? ⟨g, 2, none⟩ = some z := by
  obtain ⟨h0, h1, h2, h3, h4, h5, h6⟩ := h
  refine ⟨?_, ?_, ?_⟩ <;> simp [go_sem, h1, h2, h3]

end Go.Proofs.YtemidicgipebjaaGreat

namespace Go.Proofs.YtemidicgipebjaaGreat
set_option linter.unusedSimpArgs false
set_option maxRecDepth 100000
open Go.RowKit

def vlV (v : Vl) : Value := .agg #[.int .i64 v.1, .int .i64 v.2.1, .string v.2.2]
/-- a place's cells -/
theorem PlAt.place {p m i : Nat} {v : Value} {L : Pls} {o : Option Ent} {w : World} (h : PlAt p v m L w) (hi : L[i]? = some o) :
    ∃ g cap, v = .slice (some ⟨g, 0, none⟩) L.length cap ∧ g < w.heap.size ∧ (∀ j, j < 5 → w.cell? ⟨g, i * 5 + j, none⟩ = (cellsO o)[j]?) ∧ ∀ j, w.frozen? ⟨g, j, none⟩ = false := by
  have hl : i < L.length := (List.getElem?_eq_some_iff.1 hi).1
  obtain ⟨g, cap, rfl, _, hg⟩ := h.row.form (by omega)
  refine ⟨g, cap, rfl, hg, fun j hj => ?_, fun j => row_free h.row j⟩
  have e := cellsP_at hi hj
  have hj' : j < (cellsO o).length := by rw [cellsO_len]; exact hj
  rw [List.getElem?_eq_getElem hj'] at e ⊢
  exact row_cell h.row e

theorem value_has {p m i : Nat} {v : Value} {L : Pls} (w : World) (h : PlAt p v m L w) (s : ByteArray) (hs : s.size ≤ 1000000) (hp : posL L s = some i) :
    Calls Tryz.prog 171 #[.pointer (some ⟨p, 0, none⟩), .string s] w fun e w' => e = .returned (.tuple #[vlV (gotV (live L) s), .bool true]) ∧ Below w.heap.size w w' := by
  obtain ⟨u, hu, hlk⟩ := posL_at hp
  have hg : gotV (live L) s = u := by unfold gotV; rw [hlk]; rfl
  rw [hg]
  have hil := posL_lt hp
  obtain ⟨g, cap, rfl, hgs, hc, _⟩ := h.place hu
  obtain ⟨d0, d1⟩ := h.cells
  have H := hid h
  have hsl : s.size ≤ maxLen := by unfold maxLen; omega
  have hpm := h.lt (.inl rfl)
  have hF : posF L s = some (i : Int) := by unfold posF; rw [hp]; rfl
  have A := (Below.refl w.heap.size w).alloc (Nat.le_refl _) (Obj.cells #[.int .i64 0, .int .i64 0, .string ⟨#[]⟩] 26)
  have HM := hid (h.on A).map
  have HA := hid A
  have v2 : w.cell? ⟨g, i * 5 + 2, none⟩ = some (.int .i64 u.1) := hc 2 (by omega)
  have v3 : w.cell? ⟨g, i * 5 + 2 + 1, none⟩ = some (.int .i64 u.2.1) := hc 3 (by omega)
  have v4 : w.cell? ⟨g, i * 5 + 2 + 2, none⟩ = some (.string u.2.2) := hc 4 (by omega)
  have SL := hid (slot_new w rfl 26)
  clear h hg A hc hlk hu
  go_enter Tryz.func171, Tryz.ntmps171
  go_wp2_with (first | (at_lookup; refine wp_mlook rfl _ _ rfl m _ _ s rfl HM.out rfl hsl ?_; rw [hF]) | fail)
  exact bodyPost_ret (ret_ve rfl rfl ⟨by simp, by simp, by simp⟩) rfl ⟨rfl, (Below.refl _ _).alloc (Nat.le_refl _) _⟩
theorem value_none {p m : Nat} {v : Value} {L : Pls} (w : World) (h : PlAt p v m L w) (s : ByteArray) (hs : s.size ≤ 1000000) (hp : posL L s = none) :
    Calls Tryz.prog 171 #[.pointer (some ⟨p, 0, none⟩), .string s] w fun e w' => e = .returned (.tuple #[vlV vl0, .bool false]) ∧ Below w.heap.size w w' := by
  obtain ⟨d0, d1⟩ := h.cells
  have hsl : s.size ≤ maxLen := by unfold maxLen; omega
  have hpm := h.lt (.inl rfl)
  have hF : posF L s = none := by unfold posF; rw [hp]; rfl
  have A := (Below.refl w.heap.size w).alloc (Nat.le_refl _) (Obj.cells #[.int .i64 0, .int .i64 0, .string ⟨#[]⟩] 26)
  have HM := hid (h.on A).map
  clear h A
  go_enter Tryz.func171, Tryz.ntmps171
  go_wp2_with (first | (at_lookup; refine wp_mlook rfl _ _ rfl m _ _ s rfl HM.out rfl hsl ?_; rw [hF]) | fail)
  exact bodyPost_ret (ret_ve rfl rfl ⟨by simp [vl0], by simp [vl0], by simp [vl0]⟩) rfl ⟨rfl, (Below.refl _ _).alloc (Nat.le_refl _) _⟩
theorem value_calls {p m : Nat} {v : Value} {L : Pls} (w : World) (h : PlAt p v m L w) (s : ByteArray) (hs : s.size ≤ 1000000) :
    Calls Tryz.prog 171 #[.pointer (some ⟨p, 0, none⟩), .string s] w fun e w' => e = .returned (.tuple #[vlV (gotV (live L) s), .bool (hasL (live L) s)]) ∧ Below w.heap.size w w' := by
  cases hp : posL L s with
  | some i =>
    have : hasL (live L) s = true := by rw [← posL_has, hp]; rfl
    rw [this]; exact value_has w h s hs hp
  | none =>
    have : hasL (live L) s = false := by rw [← posL_has, hp]; rfl
    rw [this, show gotV (live L) s = vl0 from by unfold gotV; rw [posL_none hp]; rfl]; exact value_none w h s hs hp
theorem get_calls {S : Nat → Prop} {d n : Nat} {l : List Ent} (w : World) (h : DcS S d n l w) (s : ByteArray) (hs : s.size ≤ 1000000) :
    Calls Tryz.prog 168 #[.pointer (some ⟨d, 0, none⟩), .string s] w fun e w' => e = .returned (.tuple #[vlV (gotV l s), .bool (hasL l s)]) ∧ Below w.heap.size w w' := by
  have A := (Below.refl w.heap.size w).alloc (Nat.le_refl _) (Obj.cells #[.int .i64 0, .int .i64 0, .string ⟨#[]⟩] 26)
  have HD := hid (h.on A)
  obtain ⟨p, v, m, L, h1, h2, rfl, h4, h5, h6⟩ := h
  have c0 : w.cell? ⟨d, 0, none⟩ = some (.pointer (some ⟨p, 0, none⟩)) := by rw [blk_cell h1]; rfl
  have hd := blk_lt h1
  have HP := hid (h2.on A)
  have hS := hid (slot_new w rfl 26)
  have HA := hid A
  have HV := hid (value_calls _ HP.out s hs)
  unfold vlV at HV ⊢
  clear h1 h2 A h5 h6
  go_enter Tryz.func168, Tryz.ntmps168
  go_wp2_with fail
  refine (made_calls _ HD.out).mono ?_
  rintro e1 w1 ⟨rfl, rfl⟩
  go_wp2_with fail
  refine HV.out.mono ?_
  rintro e2 w2 ⟨rfl, b2⟩
  have HS2 := hid (slot_on hS.out b2)
  have HB := hid (below_on HA.out b2)
  clear b2 hS HA HV HD HP
  obtain ⟨g0, g1, g2, g3, g4, g5, g6⟩ := HS2.out
  go_wp2_with fail
  exact bodyPost_ret (ret_ve rfl rfl (put3_cells HS2.out _ _ _)) rfl ⟨rfl, put3 HB.out (by simp) _ _ _⟩
theorem len_calls {S : Nat → Prop} {d n : Nat} {l : List Ent} (w : World) (h : DcS S d n l w) :
    Calls Tryz.prog 169 #[.pointer (some ⟨d, 0, none⟩)] w fun e w' => e = .returned (.int .i64 (l.length : Int)) ∧ w' = w := by
  have HD := hid h
  obtain ⟨p, v, m, L, h1, h2, rfl, h4, h5, h6⟩ := h
  have c0 : w.cell? ⟨d, 0, none⟩ = some (.pointer (some ⟨p, 0, none⟩)) := by rw [blk_cell h1]; rfl
  have HP := hid h2
  clear h1 h2 h5 h6
  go_enter Tryz.func169, Tryz.ntmps169
  go_wp2_with fail
  refine (made_calls _ HD.out).mono ?_
  rintro e1 w1 ⟨rfl, rfl⟩
  go_wp2_with fail
  refine (count_calls _ HP.out).mono ?_
  rintro e1 w1 ⟨rfl, rfl⟩
  go_wp2_with fail
  go_ret
  exact ⟨rfl, rfl⟩

end Go.Proofs.YtemidicgipebjaaGreat

namespace Go.Proofs.YtemidicgipebjaaGreat
set_option linter.unusedSimpArgs false
set_option maxRecDepth 100000
open Go.RowKit

abbrev boxV (w : World) (k n : Int) (s : ByteArray) : World := w.alloc (Obj.cells #[.int .i64 k, .int .i64 n, .string s] 26)
/-- a value that is set again, in memory -/
theorem PlAt.put {p m i g cap : Nat} {L : Pls} {s : ByteArray} {u x : Vl} {w : World} (h : PlAt p (.slice (some ⟨g, 0, none⟩) L.length cap) m L w) (hs : s.size ≤ 1000000) (hp : posL L s = some i) (hu : L[i]? = some (some (s, u))) :
    PlAt p (.slice (some ⟨g, 0, none⟩) L.length cap) m (L.set i (some (s, x))) (((w.setCell ⟨g, i * 5 + 2, none⟩ (.int .i64 x.1)).setCell ⟨g, i * 5 + 2 + 1, none⟩ (.int .i64 x.2.1)).setCell ⟨g, i * 5 + 2 + 2, none⟩ (.string x.2.2)) ∧
      Keep (fun b => b = g) w (((w.setCell ⟨g, i * 5 + 2, none⟩ (.int .i64 x.1)).setCell ⟨g, i * 5 + 2 + 1, none⟩ (.int .i64 x.2.1)).setCell ⟨g, i * 5 + 2 + 2, none⟩ (.string x.2.2)) := by
  obtain ⟨h1, h2⟩ := posL_set x hp
  obtain ⟨n1, n2⟩ := h.ne
  obtain ⟨n3, n4⟩ := n2 g rfl
  have k1 := Keep.set (S := fun b => b = g) rfl w (i * 5 + 2) (.int .i64 x.1)
  have k2 := Keep.set (S := fun b => b = g) rfl (w.setCell ⟨g, i * 5 + 2, none⟩ (.int .i64 x.1)) (i * 5 + 2 + 1) (.int .i64 x.2.1)
  have k3 := Keep.set (S := fun b => b = g) rfl ((w.setCell ⟨g, i * 5 + 2, none⟩ (.int .i64 x.1)).setCell ⟨g, i * 5 + 2 + 1, none⟩ (.int .i64 x.2.1)) (i * 5 + 2 + 2) (.string x.2.2)
  have K := (k1.trans k2 (fun _ _ h => h)).trans k3 (fun _ _ h => h)
  refine ⟨⟨blk_keep h.blk K (fun e => n3 e.symm), ?_, ?_, ?_⟩, K⟩
  · have r := row_set (row_set (row_set h.row (i * 5 + 2) (.int .i64 x.1)) (i * 5 + 2 + 1) (.int .i64 x.2.1)) (i * 5 + 2 + 2) (.string x.2.2)
    rw [cellsP_set3 hu] at r
    rw [List.length_set]
    exact r
  · have hl : (live (L.set i (some (s, x)))).length = (live L).length := by
      rw [h1, setL_len, show hasL (live L) s = true from by rw [← posL_has, hp]; rfl]; rfl
    rw [hl]
    refine mapN_ext (mapN_keep h.map (K.block m (mapN_lt h.map) (fun e => n4 e.symm))) (fun y => ?_)
    unfold posF; rw [h2]
  · rw [h1]; exact ok_set x hs h.once

set_option maxHeartbeats 1000000 in
theorem set_has {p m i : Nat} {v : Value} {L : Pls} (w : World) (h : PlAt p v m L w) (s : ByteArray) (hs : s.size ≤ 1000000) (x : Vl) (hp : posL L s = some i) :
    Calls Tryz.prog 118 #[.pointer (some ⟨p, 0, none⟩), .string s, vlV x] w fun e w' => e = .returned (.bool false) ∧
      PlAt p v m (L.set i (some (s, x))) w' ∧ Keep (FtP p v m) w w' := by
  obtain ⟨u, hu, hlk⟩ := posL_at hp
  have hil := posL_lt hp
  obtain ⟨g, cap, rfl, hgs, hc, fz⟩ := h.place hu
  obtain ⟨d0, d1⟩ := h.cells
  have hsl : s.size ≤ maxLen := by unfold maxLen; omega
  have hpm := h.lt (.inl rfl)
  have hgp := ((h.ne).2 g rfl).1
  have hF : posF L s = some (i : Int) := by unfold posF; rw [hp]; rfl
  have A := (Below.refl w.heap.size w).alloc (Nat.le_refl _) (Obj.cells #[.int .i64 x.1, .int .i64 x.2.1, .string x.2.2] 26)
  have HM := hid (h.on A).map
  have HP := hid (h.put (x := x) hs hp hu)
  have v2 : w.cell? ⟨g, i * 5 + 2, none⟩ = some (.int .i64 u.1) := hc 2 (by omega)
  have v3 : w.cell? ⟨g, i * 5 + 2 + 1, none⟩ = some (.int .i64 u.2.1) := hc 3 (by omega)
  have v4 : w.cell? ⟨g, i * 5 + 2 + 2, none⟩ = some (.string u.2.2) := hc 4 (by omega)
  have f2 := fz (i * 5 + 2)
  have f3 := fz (i * 5 + 2 + 1)
  have f4 := fz (i * 5 + 2 + 2)
  clear h A hc hlk hu fz
  unfold vlV
  go_enter Tryz.func118, Tryz.ntmps118
  go_wp2_with (first | (at_lookup; refine wp_mlook rfl _ _ rfl m _ _ s rfl HM.out rfl hsl ?_; rw [hF]) | fail)
  refine wp_region_held_drew (S := fun a => a.cell? ⟨p, 0, none⟩ = some (.slice (some ⟨g, 0, none⟩) L.length cap) ∧ a.cell? ⟨w.heap.size, 0, none⟩ = some (.int .i64 x.1) ∧ a.cell? ⟨w.heap.size, 1, none⟩ = some (.int .i64 x.2.1) ∧ a.cell? ⟨w.heap.size, 2, none⟩ = some (.string x.2.2)) (by kernel_rfl) ?_ (fun hHeld => ?_)
  · refine ⟨?_, ?_, ?_, ?_⟩ <;> go_simp
  refine wpAnyH_take (i := 0) (v := ?v1) rfl (by kernel_rfl) (by kernel_rfl) (by kernel_rfl) (fun _ _ _ h => h) (Or.inl ⟨by rfl, ?hy1⟩) (by assumption) ?_
  case hy1 => (intro w hSw; go_simp <;> (try with_reducible rfl))
  simp only [Act.put, List.setIfInBounds_toArray, List.set_cons_zero, List.set_cons_succ, List.getElem_toArray, List.getElem_cons_succ, List.getElem_cons_zero]
  refine wpAnyH_take (i := 1) (v := ?v2) rfl (by kernel_rfl) (by kernel_rfl) (by kernel_rfl) (fun _ _ _ h => h) (Or.inl ⟨by rfl, ?hy2⟩) (by assumption) ?_
  case hy2 => (intro w hSw; go_simp <;> (try with_reducible rfl))
  simp only [Act.put, List.setIfInBounds_toArray, List.set_cons_zero, List.set_cons_succ, List.getElem_toArray, List.getElem_cons_succ, List.getElem_cons_zero]
  refine wpAnyH_take (i := 2) (v := ?v3) rfl (by kernel_rfl) (by kernel_rfl) (by kernel_rfl) (fun _ _ _ h => h) (Or.inl ⟨by rfl, ?hy3⟩) (by assumption) ?_
  case hy3 => (intro w hSw; go_simp <;> (try with_reducible rfl))
  simp only [Act.put, List.setIfInBounds_toArray, List.set_cons_zero, List.set_cons_succ, List.getElem_toArray, List.getElem_cons_succ, List.getElem_cons_zero]
  refine wpAnyH_take (i := 3) (v := ?v4) rfl (by kernel_rfl) (by kernel_rfl) (by kernel_rfl) (fun _ _ _ h => h) (Or.inl ⟨by rfl, ?hy4⟩) (by assumption) ?_
  case hy4 => (intro w hSw; go_simp <;> (try with_reducible rfl))
  simp only [Act.put, List.setIfInBounds_toArray, List.set_cons_zero, List.set_cons_succ, List.getElem_toArray, List.getElem_cons_succ, List.getElem_cons_zero]
  refine wpAnyH_take (i := 4) (v := ?v5) rfl (by kernel_rfl) (by kernel_rfl) (by kernel_rfl) (fun _ _ _ h => h) (Or.inl ⟨by rfl, ?hy5⟩) (by assumption) ?_
  case hy5 => (intro w hSw; go_simp <;> (try with_reducible rfl))
  simp only [Act.put, List.setIfInBounds_toArray, List.set_cons_zero, List.set_cons_succ, List.getElem_toArray, List.getElem_cons_succ, List.getElem_cons_zero]
  refine wpAnyH_take (i := 5) (v := ?v6) rfl (by kernel_rfl) (by kernel_rfl) (by kernel_rfl) (fun _ _ _ h => h) (Or.inl ⟨by rfl, ?hy6⟩) (by assumption) ?_
  case hy6 => (intro w hSw; go_simp <;> (try with_reducible rfl))
  simp only [Act.put, List.setIfInBounds_toArray, List.set_cons_zero, List.set_cons_succ, List.getElem_toArray, List.getElem_cons_succ, List.getElem_cons_zero]
  refine wpAnyH_take (i := 6) (v := ?v7) rfl (by kernel_rfl) (by kernel_rfl) (by kernel_rfl) (fun _ _ _ h => h) (Or.inl ⟨by rfl, ?hy7⟩) (by assumption) ?_
  case hy7 => (intro w hSw; go_simp <;> (try with_reducible rfl))
  simp only [Act.put, List.setIfInBounds_toArray, List.set_cons_zero, List.set_cons_succ, List.getElem_toArray, List.getElem_cons_succ, List.getElem_cons_zero]
  refine wpAnyH_take (i := 7) (v := ?v8) rfl (by kernel_rfl) (by kernel_rfl) (by kernel_rfl) (fun _ _ _ h => h) (Or.inl ⟨by rfl, ?hy8⟩) (by assumption) ?_
  case hy8 => (intro w hSw; go_simp <;> (try with_reducible rfl))
  simp only [Act.put, List.setIfInBounds_toArray, List.set_cons_zero, List.set_cons_succ, List.getElem_toArray, List.getElem_cons_succ, List.getElem_cons_zero]
  refine wpAnyH_ready (rs := [8]) (by kernel_rfl) (by simp) ?_
  refine AllReadyH.cons rfl (fun K hK => ?_) AllReadyH.nil
  go_simp
  refine hK.out _ _ ?_ (fun _ => ?_)
  · refine ⟨?_, ?_, ?_, ?_⟩ <;> go_simp
  clear hK K
  refine wpAnyH_done (by kernel_rfl) ?_ _
  go_wp2_with fail
  go_ret
  exact ⟨rfl, HP.out.1.on (((Below.refl _ _).alloc (Nat.le_refl _) _).drew), (HP.out.2.mono (T := FtP p (.slice (some ⟨g, 0, none⟩) L.length cap) m) (fun b _ e => .inr (.inr (by rw [e]; rfl)))).trans (Keep.of (S := FtP p (.slice (some ⟨g, 0, none⟩) L.length cap) m) (((Below.refl _ _).alloc (Nat.le_refl _) _).drew)) (fun _ _ h => h)⟩

theorem posF_snoc {L : Pls} {s : ByteArray} (x : Vl) (hp : posL L s = none) (y : ByteArray) : putF (posF L) s (L.length : Int) y = posF (L ++ [some (s, x)]) y := by
  unfold putF posF
  rw [posL_snoc]
  by_cases hy : y = s
  · subst hy
    rw [if_pos rfl, hp]
    simp
  · rw [if_neg hy]
    rcases Option.eq_none_or_eq_some (posL L y) with h1 | ⟨j, h1⟩
    · rw [h1]; simp [show ¬ s = y from fun e => hy e.symm]
    · rw [h1]; simp
theorem live_snoc (L : Pls) (e : Ent) : live (L ++ [some e]) = live L ++ [e] := by rw [live_append]; rfl
/-- one place more, in memory -/
theorem PlAt.more1 {p m : Nat} {v : Value} {L : Pls} {w a w2 b w3 : World} (h : PlAt p v m L w) (hB : Below w.heap.size w a) (g2 : a.grownBy w2 (some m)) (hb : Below w2.heap.size w2 b) (g3 : b.grownBy w3 v.ownBlock) :
    Blk p 181 #[v, .map (some m)] w2 ∧ w2.ownsRow 0 183 5 v L.length (cellsP L) ∧ Blk p 181 #[v, .map (some m)] w3 ∧ w3.heap[m]? = w2.heap[m]? ∧ Keep (FtP p v m) w w3 ∧ w.heap.size ≤ b.heap.size := by
  obtain ⟨n1, n2⟩ := h.ne
  have hs1 := hB.size
  have hs2 := g2.size
  have hs3 := hb.size
  have hp := h.lt (b := p) (.inl rfl)
  have hm := h.lt (b := m) (.inr (.inl rfl))
  have e2 : ∀ k, k < w.heap.size → k ≠ m → w2.heap[k]? = w.heap[k]? := fun k hk hn => (g2.block k (by omega) (by simpa using hn)).trans (hB.block k hk)
  have e3 : ∀ k, k < w2.heap.size → some k ≠ v.ownBlock → w3.heap[k]? = w2.heap[k]? := fun k hk hn => (g3.block k (by omega) hn).trans (hb.block k hk)
  have hpb : some p ≠ v.ownBlock := fun e => (n2 p e.symm).1 rfl
  have b2 : Blk p 181 #[v, .map (some m)] w2 := (e2 p hp (fun e => n1 e.symm)).trans h.blk
  refine ⟨b2, row_keep h.row (fun g hg => e2 g (h.lt (.inr (.inr hg))) (n2 g hg).2), (e3 p (by omega) hpb).trans b2, e3 m (by omega) (fun e => (n2 m e.symm).2 rfl), ?_, by omega⟩
  refine ⟨g3.os.trans (hb.os.trans (g2.os.trans hB.os)), g3.tape.trans (hb.tape.trans (g2.tape.trans hB.tape)), g3.output.trans (hb.output.trans (g2.output.trans hB.output)), by have := g3.size; omega, fun k hk hn => ?_⟩
  rw [e3 k (by omega) (fun e => hn (.inr (.inr e.symm))), e2 k hk (fun e => hn (.inr (.inl e)))]
theorem PlAt.more2 {p m g cap H : Nat} {v : Value} {L : Pls} {s : ByteArray} {x : Vl} {w w2 w3 : World} (h : PlAt p v m L w) (hs : s.size ≤ 1000000) (hp : posL L s = none) (hM : MapN m (putF (posF L) s (L.length : Int)) (if (posF L s).isSome then (live L).length else (live L).length + 1) w2)
    (hb3 : Blk p 181 #[v, .map (some m)] w3) (hm3 : w3.heap[m]? = w2.heap[m]?) (hK : Keep (FtP p v m) w w3) (hat : v.ownBlock = some g ∨ g = H) (hH : w.heap.size ≤ H)
    (hown : w3.ownsRow 0 183 5 (.slice (some ⟨g, 0, none⟩) (L.length + 1) cap) (L.length + 1) (cellsP L ++ cellsO (some (s, x)))) :
    PlAt p (.slice (some ⟨g, 0, none⟩) (L.length + 1) cap) m (L ++ [some (s, x)]) (w3.setCell ⟨p, 0, none⟩ (.slice (some ⟨g, 0, none⟩) (L.length + 1) cap)) ∧
      Keep (FtP p v m) w (w3.setCell ⟨p, 0, none⟩ (.slice (some ⟨g, 0, none⟩) (L.length + 1) cap)) ∧ ∀ b, FtP p (.slice (some ⟨g, 0, none⟩) (L.length + 1) cap) m b → FtP p v m b ∨ w.heap.size ≤ b := by
  obtain ⟨n1, n2⟩ := h.ne
  have hpl := h.lt (b := p) (.inl rfl)
  have hgp : g ≠ p := by
    rcases hat with h1 | h1
    · exact (n2 g h1).1
    · omega
  have K3 := Keep.set (S := fun b => b = p) rfl w3 0 (.slice (some ⟨g, 0, none⟩) (L.length + 1) cap)
  have hh : hasL (live L) s = false := by rw [← posL_has, hp]; rfl
  have hm3' : m < w3.heap.size := Nat.lt_of_lt_of_le (h.lt (b := m) (.inr (.inl rfl))) hK.size
  refine ⟨⟨blk_set hb3 0 _, ?_, ?_, ?_⟩, hK.trans K3 (fun b _ e => .inl e), ?_⟩
  · rw [cellsP_append, List.length_append]
    have := row_keep (c := w3.setCell ⟨p, 0, none⟩ (.slice (some ⟨g, 0, none⟩) (L.length + 1) cap)) hown (fun k hk => by
      simp [Value.ownBlock] at hk
      subst hk
      obtain ⟨cur, hc⟩ := row_lt hown (g := g) rfl
      exact K3.block g (blk_lt hc) hgp)
    simpa [cellsP] using this
  · rw [live_snoc, List.length_append]
    have := mapN_keep (mapN_keep hM hm3) (K3.block m hm3' (fun e => n1 e))
    rw [posF_some, hh] at this
    exact mapN_ext this (posF_snoc x hp)
  · rw [live_snoc]
    have := ok_set (s := s) x hs h.once
    rwa [setL_new x hh] at this
  · rintro b (rfl | rfl | hb)
    · exact .inl (.inl rfl)
    · exact .inl (.inr (.inl rfl))
    · simp [Value.ownBlock] at hb
      subst hb
      rcases hat with h1 | h1
      · exact .inl (.inr (.inr h1))
      · exact .inr (by omega)

set_option maxHeartbeats 2000000 in
theorem set_new {p m : Nat} {v : Value} {L : Pls} (w : World) (h : PlAt p v m L w) (s : ByteArray) (hs : s.size ≤ 1000000) (x : Vl) (hp : posL L s = none) (hf : L.length ≤ 1000000) :
    Calls Tryz.prog 118 #[.pointer (some ⟨p, 0, none⟩), .string s, vlV x] w fun e w' => e = .returned (.bool true) ∧
      ∃ v', PlAt p v' m (L ++ [some (s, x)]) w' ∧ Keep (FtP p v m) w w' ∧ ∀ b, FtP p v' m b → FtP p v m b ∨ w.heap.size ≤ b := by
  obtain ⟨i0, hi, hz0, hz1, hz2⟩ := infoP
  obtain ⟨ao, cap, rfl⟩ := row_shape h.row
  obtain ⟨d0, d1⟩ := h.cells
  have hsl : s.size ≤ maxLen := by unfold maxLen; omega
  have hpm := h.lt (.inl rfl)
  have hF : posF L s = none := by unfold posF; rw [hp]; rfl
  have hll := live_len L
  have hcl : (live L).length < maxLen := by unfold maxLen; omega
  have hwf : (Lit.int .i64 (L.length : Int)).wf = true := WalkArith.wf_i64 (by omega)
  have A := (Below.refl w.heap.size w).alloc (Nat.le_refl _) (Obj.cells #[.int .i64 x.1, .int .i64 x.2.1, .string x.2.2] 26)
  have HM := hid (h.on A).map
  have HA := hid A
  have HP := hid h
  clear h A
  unfold vlV
  go_enter Tryz.func118, Tryz.ntmps118
  go_wp2_with (first | (at_lookup; refine wp_mlook rfl _ _ rfl m _ _ s rfl HM.out rfl hsl ?_; rw [hF]) | fail)
  refine wp_region_held_drew (S := fun a => a.cell? ⟨p, 0, none⟩ = some (.slice ao L.length cap) ∧ a.cell? ⟨p, 1, none⟩ = some (.map (some m))) (by kernel_rfl) ?_ (fun hHeld => ?_)
  · refine ⟨?_, ?_⟩ <;> go_simp
  refine wpAnyH_take (i := 0) (v := ?v10) rfl (by kernel_rfl) (by kernel_rfl) (by kernel_rfl) (fun _ _ _ h => h) (Or.inl ⟨by rfl, ?hy10⟩) (by assumption) ?_
  case hy10 => (intro w hSw; go_simp <;> (try with_reducible rfl))
  simp only [Act.put, List.setIfInBounds_toArray, List.set_cons_zero, List.set_cons_succ, List.getElem_toArray, List.getElem_cons_succ, List.getElem_cons_zero]
  refine wpAnyH_take (i := 1) (v := ?v11) rfl (by kernel_rfl) (by kernel_rfl) (by kernel_rfl) (fun _ _ _ h => h) (Or.inl ⟨by rfl, ?hy11⟩) (by assumption) ?_
  case hy11 => (intro w hSw; go_simp <;> (try with_reducible rfl))
  simp only [Act.put, List.setIfInBounds_toArray, List.set_cons_zero, List.set_cons_succ, List.getElem_toArray, List.getElem_cons_succ, List.getElem_cons_zero]
  refine wpAnyH_take (i := 2) (v := ?v12) rfl (by kernel_rfl) (by kernel_rfl) (by kernel_rfl) (fun _ _ _ h => h) (Or.inl ⟨by rfl, ?hy12⟩) (by assumption) ?_
  case hy12 => (intro w hSw; go_simp <;> (try with_reducible rfl))
  simp only [Act.put, List.setIfInBounds_toArray, List.set_cons_zero, List.set_cons_succ, List.getElem_toArray, List.getElem_cons_succ, List.getElem_cons_zero]
  refine wpAnyH_take (i := 3) (v := ?v13) rfl (by kernel_rfl) (by kernel_rfl) (by kernel_rfl) (fun _ _ _ h => h) (Or.inl ⟨by rfl, ?hy13⟩) (by assumption) ?_
  case hy13 => (intro w hSw; go_simp <;> (try with_reducible rfl))
  simp only [Act.put, List.setIfInBounds_toArray, List.set_cons_zero, List.set_cons_succ, List.getElem_toArray, List.getElem_cons_succ, List.getElem_cons_zero]
  refine wpAnyH_take (i := 4) (v := ?v14) rfl (by kernel_rfl) (by kernel_rfl) (by kernel_rfl) (fun _ _ _ h => h) (Or.inl ⟨by rfl, ?hy14⟩) (by assumption) ?_
  case hy14 => (intro w hSw; go_simp <;> (try with_reducible rfl))
  simp only [Act.put, List.setIfInBounds_toArray, List.set_cons_zero, List.set_cons_succ, List.getElem_toArray, List.getElem_cons_succ, List.getElem_cons_zero]
  refine wpAnyH_take (i := 5) (v := ?v15) rfl (by kernel_rfl) (by kernel_rfl) (by kernel_rfl) (fun _ _ _ h => h) (Or.inl ⟨by rfl, ?hy15⟩) (by assumption) ?_
  case hy15 => (intro w hSw; go_simp <;> (try with_reducible rfl))
  simp only [Act.put, List.setIfInBounds_toArray, List.set_cons_zero, List.set_cons_succ, List.getElem_toArray, List.getElem_cons_succ, List.getElem_cons_zero]
  refine wpAnyH_take (i := 6) (v := ?v16) rfl (by kernel_rfl) (by kernel_rfl) (by kernel_rfl) (fun _ _ _ h => h) (Or.inl ⟨by rfl, ?hy16⟩) (by assumption) ?_
  case hy16 => (intro w hSw; go_simp <;> (try with_reducible rfl))
  simp only [Act.put, List.setIfInBounds_toArray, List.set_cons_zero, List.set_cons_succ, List.getElem_toArray, List.getElem_cons_succ, List.getElem_cons_zero]
  refine wpAnyH_take (i := 7) (v := ?v17) rfl (by kernel_rfl) (by kernel_rfl) (by kernel_rfl) (fun _ _ _ h => h) (Or.inl ⟨by rfl, ?hy17⟩) (by assumption) ?_
  case hy17 => (intro w hSw; go_simp <;> (try with_reducible rfl))
  simp only [Act.put, List.setIfInBounds_toArray, List.set_cons_zero, List.set_cons_succ, List.getElem_toArray, List.getElem_cons_succ, List.getElem_cons_zero]
  refine wpAnyH_take (i := 8) (v := ?v18) rfl (by kernel_rfl) (by kernel_rfl) (by kernel_rfl) (fun _ _ _ h => h) (Or.inl ⟨by rfl, ?hy18⟩) (by assumption) ?_
  case hy18 => (intro w hSw; go_simp <;> (try with_reducible rfl))
  simp only [Act.put, List.setIfInBounds_toArray, List.set_cons_zero, List.set_cons_succ, List.getElem_toArray, List.getElem_cons_succ, List.getElem_cons_zero]
  refine wpAnyH_take (i := 9) (v := ?v19) rfl (by kernel_rfl) (by kernel_rfl) (by kernel_rfl) (fun _ _ _ h => h) (Or.inl ⟨by rfl, ?hy19⟩) (by assumption) ?_
  case hy19 => (intro w hSw; go_simp <;> (try with_reducible rfl))
  simp only [Act.put, List.setIfInBounds_toArray, List.set_cons_zero, List.set_cons_succ, List.getElem_toArray, List.getElem_cons_succ, List.getElem_cons_zero]
  refine wpAnyH_ready (rs := [10]) (by kernel_rfl) (by simp) ?_
  refine AllReadyH.cons rfl (fun K hK => ?_) AllReadyH.nil
  refine step_mput rfl _ _ _ rfl m _ _ s (L.length : Int) rfl (mapN_keep HM.out rfl) hcl rfl hsl rfl hwf ?_
  intro w2 hM2 g2
  have e2 := HP.out.more1 HA.out.drew g2 (Below.refl _ _).drew (World.grownBy_alloc _ (Obj.cells #[] 0) _)
  have HM2 := hid hM2
  have G2 := hid g2
  have E2 := hid e2
  obtain ⟨c0, c1⟩ : w2.cell? ⟨p, 0, none⟩ = some (.slice ao L.length cap) ∧ w2.cell? ⟨p, 1, none⟩ = some (.map (some m)) := ⟨by rw [blk_cell e2.1]; rfl, by rw [blk_cell e2.1]; rfl⟩
  obtain ⟨x0, x1, x2⟩ : w2.cell? ⟨w.heap.size, 0, none⟩ = some (.int .i64 x.1) ∧ w2.cell? ⟨w.heap.size, 1, none⟩ = some (.int .i64 x.2.1) ∧ w2.cell? ⟨w.heap.size, 2, none⟩ = some (.string x.2.2) := by
    have hmn : w.heap.size ≠ m := fun e => by have := HP.out.lt (b := m) (.inr (.inl rfl)); omega
    refine ⟨?_, ?_, ?_⟩ <;> rw [World.cell?_of_block (g2.block w.heap.size (by simp) (by simpa using hmn))] <;> simp
  refine hK.out _ _ ⟨c0, c1⟩ (fun _ => ?_)
  clear hK K g2 hM2 hHeld e2
  refine wpAnyH_done (by kernel_rfl) ?_ _
  go_wp2_with fail
  have hsz2 : w.heap.size < w2.heap.size := by
    have := G2.out.size
    simp at this
    omega
  have hp2 : p < w2.heap.size := by omega
  have RW := hid (show World.ownsRow (w2.alloc (Obj.cells #[.bool true, .string s, .int .i64 x.1, .int .i64 x.2.1, .string x.2.2] 183)).drew 0 183 5 (.slice ao L.length cap) L.length (cellsP L) from row_keep E2.out.2.1 (fun g hg => ((Below.refl w2.heap.size w2).alloc (Nat.le_refl _) (Obj.cells #[.bool true, .string s, .int .i64 x.1, .int .i64 x.2.1, .string x.2.2] 183)).drew.block g (by
    obtain ⟨cur, hc⟩ := row_lt E2.out.2.1 hg
    exact blk_lt hc)))
  have NW := hid (World.news_of_block (w := (w2.alloc (Obj.cells #[.bool true, .string s, .int .i64 x.1, .int .i64 x.2.1, .string x.2.2] 183)).drew) (show (w2.alloc (Obj.cells #[.bool true, .string s, .int .i64 x.1, .int .i64 x.2.1, .string x.2.2] 183)).drew.heap[w2.heap.size]? = _ from heap_alloc_new w2 (Obj.cells #[.bool true, .string s, .int .i64 x.1, .int .i64 x.2.1, .string x.2.2] 183)))
  have BL := hid (((Below.refl w2.heap.size w2).alloc (Nat.le_refl _) (Obj.cells #[.bool true, .string s, .int .i64 x.1, .int .i64 x.2.1, .string x.2.2] 183)).drew)
  have HLT := hid (show w.heap.size < (w2.alloc (Obj.cells #[.bool true, .string s, .int .i64 x.1, .int .i64 x.2.1, .string x.2.2] 183)).drew.heap.size from Nat.lt_of_lt_of_le hsz2 BL.out.size)
  have NE := hid (show some w.heap.size ≠ (Value.slice ao L.length cap).ownBlock from fun e => by have := HP.out.lt (b := w.heap.size) (.inr (.inr e.symm)); omega)
  refine wp_region_held_drew (S := (fun a => a.cell? ⟨w.heap.size, 0, none⟩ = some (.int .i64 x.1) ∧ a.cell? ⟨w.heap.size, 1, none⟩ = some (.int .i64 x.2.1) ∧ a.cell? ⟨w.heap.size, 2, none⟩ = some (.string x.2.2))) (by kernel_rfl) ⟨x0, x1, x2⟩ (fun hHeld => ?_)
  refine wpAnyH_take (i := 0) (v := ?v21) rfl (by kernel_rfl) (by kernel_rfl) (by kernel_rfl) (fun _ _ _ h => h) (Or.inl ⟨by rfl, ?hy21⟩) (by assumption) ?_
  case hy21 => (intro w hSw; go_simp <;> (try with_reducible rfl))
  simp only [Act.put, List.setIfInBounds_toArray, List.set_cons_zero, List.set_cons_succ, List.getElem_toArray, List.getElem_cons_succ, List.getElem_cons_zero]
  refine wpAnyH_take (i := 1) (v := ?v22) rfl (by kernel_rfl) (by kernel_rfl) (by kernel_rfl) (fun _ _ _ h => h) (Or.inl ⟨by rfl, ?hy22⟩) (by assumption) ?_
  case hy22 => (intro w hSw; go_simp <;> (try with_reducible rfl))
  simp only [Act.put, List.setIfInBounds_toArray, List.set_cons_zero, List.set_cons_succ, List.getElem_toArray, List.getElem_cons_succ, List.getElem_cons_zero]
  refine wpAnyH_take (i := 2) (v := ?v23) rfl (by kernel_rfl) (by kernel_rfl) (by kernel_rfl) (fun _ _ _ h => h) (Or.inl ⟨by rfl, ?hy23⟩) (by assumption) ?_
  case hy23 => (intro w hSw; go_simp <;> (try with_reducible rfl))
  simp only [Act.put, List.setIfInBounds_toArray, List.set_cons_zero, List.set_cons_succ, List.getElem_toArray, List.getElem_cons_succ, List.getElem_cons_zero]
  refine wpAnyH_take (i := 3) (v := ?v24) rfl (by kernel_rfl) (by kernel_rfl) (by kernel_rfl) (fun _ _ _ h => h) (Or.inl ⟨by rfl, ?hy24⟩) (by assumption) ?_
  case hy24 => (intro w hSw; go_simp <;> (try with_reducible rfl))
  simp only [Act.put, List.setIfInBounds_toArray, List.set_cons_zero, List.set_cons_succ, List.getElem_toArray, List.getElem_cons_succ, List.getElem_cons_zero]
  refine wpAnyH_take (i := 5) (v := ?v25) rfl (by kernel_rfl) (by kernel_rfl) (by kernel_rfl) (fun _ _ _ h => h) (Or.inl ⟨by rfl, ?hy25⟩) (by assumption) ?_
  case hy25 => (intro w hSw; go_simp <;> (try with_reducible rfl))
  simp only [Act.put, List.setIfInBounds_toArray, List.set_cons_zero, List.set_cons_succ, List.getElem_toArray, List.getElem_cons_succ, List.getElem_cons_zero]
  refine wpAnyH_take (i := 6) (v := ?v26) rfl (by kernel_rfl) (by kernel_rfl) (by kernel_rfl) (fun _ _ _ h => h) (Or.inl ⟨by rfl, ?hy26⟩) (by assumption) ?_
  case hy26 => (intro w hSw; go_simp <;> (try with_reducible rfl))
  simp only [Act.put, List.setIfInBounds_toArray, List.set_cons_zero, List.set_cons_succ, List.getElem_toArray, List.getElem_cons_succ, List.getElem_cons_zero]
  refine wpAnyH_take (i := 7) (v := ?v27) rfl (by kernel_rfl) (by kernel_rfl) (by kernel_rfl) (fun _ _ _ h => h) (Or.inl ⟨by rfl, ?hy27⟩) (by assumption) ?_
  case hy27 => (intro w hSw; go_simp <;> (try with_reducible rfl))
  simp only [Act.put, List.setIfInBounds_toArray, List.set_cons_zero, List.set_cons_succ, List.getElem_toArray, List.getElem_cons_succ, List.getElem_cons_zero]
  refine wpAnyH_ready (rs := [4, 8]) (by kernel_rfl) (by simp) ?_
  refine AllReadyH.cons rfl (fun K hK => ?_) (AllReadyH.cons rfl (fun K hK => ?_) AllReadyH.nil)
  · go_simp
    refine hK.out _ _ ⟨x0, x1, x2⟩ (fun _ => ?_)
    clear hK K
    refine wpAnyH_ready (rs := [8]) (by kernel_rfl) (by simp) ?_
    refine AllReadyH.cons rfl (fun K hK => ?_) AllReadyH.nil
    go_simp
    refine hK.out _ _ ?_ (fun _ => ?_)
    · refine ⟨?_, ?_, ?_⟩ <;> go_simp
    clear hK K
    refine wpAnyH_ready (rs := [9]) (by kernel_rfl) (by simp) ?_
    refine AllReadyH.cons rfl (fun K hK => ?_) AllReadyH.nil
    refine step_append_lies _ rfl _ _ 179 rfl 0 183 i0 _ 5 56 underP hi hz0 hz1 hz2 rfl (by decide) (.slice ao L.length cap) L.length (cellsP L) rfl RW.out ⟨w2.heap.size, 0, none⟩ 1 1 (cellsO (some (s, x))) rfl rfl NW.out (cellsO_one _) (by decide) (by unfold maxLen; omega) (by omega) (Nat.zero_le _) (w2.heap.size + 1) (by simp) ?_
    intro g cp w3 hown hgrow hat hlt
    have q := HP.out.more1 HA.out.drew G2.out BL.out hgrow
    have W := hid (HP.out.more2 (x := x) hs hp HM2.out q.2.2.1 q.2.2.2.1 q.2.2.2.2.1 hat (by have := q.2.2.2.2.2; simpa using this) hown)
    have q0 : w3.cell? ⟨p, 0, none⟩ = some (.slice ao L.length cap) := by rw [blk_cell q.2.2.1]; rfl
    have q1 : w3.frozen? ⟨p, 0, none⟩ = false := blk_free q.2.2.1 0
    have y0 : w3.cell? ⟨w.heap.size, 0, none⟩ = some (.int .i64 x.1) := (hgrow.cell_far ⟨w.heap.size, 0, none⟩ HLT.out NE.out).trans (by go_simp)
    have y1 : w3.cell? ⟨w.heap.size, 1, none⟩ = some (.int .i64 x.2.1) := (hgrow.cell_far ⟨w.heap.size, 1, none⟩ HLT.out NE.out).trans (by go_simp)
    have y2 : w3.cell? ⟨w.heap.size, 2, none⟩ = some (.string x.2.2) := (hgrow.cell_far ⟨w.heap.size, 2, none⟩ HLT.out NE.out).trans (by go_simp)
    refine hK.out _ _ ⟨y0, y1, y2⟩ (fun _ => ?_)
    clear hK K hown hgrow q
    simp only [Act.put, List.setIfInBounds_toArray, List.set_cons_zero, List.set_cons_succ, List.getElem_toArray, List.getElem_cons_succ, List.getElem_cons_zero]
    refine wpAnyH_take (i := 10) (v := ?v30) rfl (by kernel_rfl) (by kernel_rfl) (by kernel_rfl) (fun _ _ _ h => h) (Or.inl ⟨by rfl, ?hy30⟩) (by assumption) ?_
    case hy30 => (intro w hSw; go_simp <;> (try with_reducible rfl))
    simp only [Act.put, List.setIfInBounds_toArray, List.set_cons_zero, List.set_cons_succ, List.getElem_toArray, List.getElem_cons_succ, List.getElem_cons_zero]
    refine wpAnyH_take (i := 11) (v := ?v31) rfl (by kernel_rfl) (by kernel_rfl) (by kernel_rfl) (fun _ _ _ h => h) (Or.inl ⟨by rfl, ?hy31⟩) (by assumption) ?_
    case hy31 => (intro w hSw; go_simp <;> (try with_reducible rfl))
    simp only [Act.put, List.setIfInBounds_toArray, List.set_cons_zero, List.set_cons_succ, List.getElem_toArray, List.getElem_cons_succ, List.getElem_cons_zero]
    refine wpAnyH_ready (rs := [12]) (by kernel_rfl) (by simp) ?_
    refine AllReadyH.cons rfl (fun K hK => ?_) AllReadyH.nil
    go_simp
    refine hK.out _ _ ?_ (fun _ => ?_)
    · have hne : p ≠ w.heap.size := by omega
      refine ⟨?_, ?_, ?_⟩ <;> go_simp
    clear hK K
    refine wpAnyH_done (by kernel_rfl) ?_ _
    go_wp2_with fail
    go_ret
    exact ⟨rfl, _, W.out⟩
  · go_simp
    refine hK.out _ _ ?_ (fun _ => ?_)
    · refine ⟨?_, ?_, ?_⟩ <;> go_simp
    clear hK K
    refine wpAnyH_ready (rs := [4]) (by kernel_rfl) (by simp) ?_
    refine AllReadyH.cons rfl (fun K hK => ?_) AllReadyH.nil
    go_simp
    refine hK.out _ _ ?_ (fun _ => ?_)
    · refine ⟨?_, ?_, ?_⟩ <;> go_simp
    clear hK K
    refine wpAnyH_ready (rs := [9]) (by kernel_rfl) (by simp) ?_
    refine AllReadyH.cons rfl (fun K hK => ?_) AllReadyH.nil
    refine step_append_lies _ rfl _ _ 179 rfl 0 183 i0 _ 5 56 underP hi hz0 hz1 hz2 rfl (by decide) (.slice ao L.length cap) L.length (cellsP L) rfl RW.out ⟨w2.heap.size, 0, none⟩ 1 1 (cellsO (some (s, x))) rfl rfl NW.out (cellsO_one _) (by decide) (by unfold maxLen; omega) (by omega) (Nat.zero_le _) (w2.heap.size + 1) (by simp) ?_
    intro g cp w3 hown hgrow hat hlt
    have q := HP.out.more1 HA.out.drew G2.out BL.out hgrow
    have W := hid (HP.out.more2 (x := x) hs hp HM2.out q.2.2.1 q.2.2.2.1 q.2.2.2.2.1 hat (by have := q.2.2.2.2.2; simpa using this) hown)
    have q0 : w3.cell? ⟨p, 0, none⟩ = some (.slice ao L.length cap) := by rw [blk_cell q.2.2.1]; rfl
    have q1 : w3.frozen? ⟨p, 0, none⟩ = false := blk_free q.2.2.1 0
    have y0 : w3.cell? ⟨w.heap.size, 0, none⟩ = some (.int .i64 x.1) := (hgrow.cell_far ⟨w.heap.size, 0, none⟩ HLT.out NE.out).trans (by go_simp)
    have y1 : w3.cell? ⟨w.heap.size, 1, none⟩ = some (.int .i64 x.2.1) := (hgrow.cell_far ⟨w.heap.size, 1, none⟩ HLT.out NE.out).trans (by go_simp)
    have y2 : w3.cell? ⟨w.heap.size, 2, none⟩ = some (.string x.2.2) := (hgrow.cell_far ⟨w.heap.size, 2, none⟩ HLT.out NE.out).trans (by go_simp)
    refine hK.out _ _ ⟨y0, y1, y2⟩ (fun _ => ?_)
    clear hK K hown hgrow q
    simp only [Act.put, List.setIfInBounds_toArray, List.set_cons_zero, List.set_cons_succ, List.getElem_toArray, List.getElem_cons_succ, List.getElem_cons_zero]
    refine wpAnyH_take (i := 10) (v := ?v35) rfl (by kernel_rfl) (by kernel_rfl) (by kernel_rfl) (fun _ _ _ h => h) (Or.inl ⟨by rfl, ?hy35⟩) (by assumption) ?_
    case hy35 => (intro w hSw; go_simp <;> (try with_reducible rfl))
    simp only [Act.put, List.setIfInBounds_toArray, List.set_cons_zero, List.set_cons_succ, List.getElem_toArray, List.getElem_cons_succ, List.getElem_cons_zero]
    refine wpAnyH_take (i := 11) (v := ?v36) rfl (by kernel_rfl) (by kernel_rfl) (by kernel_rfl) (fun _ _ _ h => h) (Or.inl ⟨by rfl, ?hy36⟩) (by assumption) ?_
    case hy36 => (intro w hSw; go_simp <;> (try with_reducible rfl))
    simp only [Act.put, List.setIfInBounds_toArray, List.set_cons_zero, List.set_cons_succ, List.getElem_toArray, List.getElem_cons_succ, List.getElem_cons_zero]
    refine wpAnyH_ready (rs := [12]) (by kernel_rfl) (by simp) ?_
    refine AllReadyH.cons rfl (fun K hK => ?_) AllReadyH.nil
    go_simp
    refine hK.out _ _ ?_ (fun _ => ?_)
    · have hne : p ≠ w.heap.size := by omega
      refine ⟨?_, ?_, ?_⟩ <;> go_simp
    clear hK K
    refine wpAnyH_done (by kernel_rfl) ?_ _
    go_wp2_with fail
    go_ret
    exact ⟨rfl, _, W.out⟩

end Go.Proofs.YtemidicgipebjaaGreat

namespace Go.Proofs.YtemidicgipebjaaGreat
set_option linter.unusedSimpArgs false
set_option maxRecDepth 100000
open Go.RowKit

theorem set_calls {p m : Nat} {v : Value} {L : Pls} (w : World) (h : PlAt p v m L w) (s : ByteArray) (hs : s.size ≤ 1000000) (x : Vl) (hf : L.length ≤ 1000000) :
    Calls Tryz.prog 118 #[.pointer (some ⟨p, 0, none⟩), .string s, vlV x] w fun e w' => e = .returned (.bool (!hasL (live L) s)) ∧
      ∃ v' L', PlAt p v' m L' w' ∧ live L' = setL (live L) s x ∧ L'.length ≤ L.length + 1 ∧ Keep (FtP p v m) w w' ∧ ∀ b, FtP p v' m b → FtP p v m b ∨ w.heap.size ≤ b := by
  cases hp : posL L s with
  | some i =>
    rw [show hasL (live L) s = true from by rw [← posL_has, hp]; rfl]
    refine (set_has w h s hs x hp).mono ?_
    rintro e w' ⟨rfl, h1, h2⟩
    exact ⟨rfl, v, _, h1, (posL_set x hp).1, by rw [List.length_set]; omega, h2, fun b hb => .inl hb⟩
  | none =>
    have hh : hasL (live L) s = false := by rw [← posL_has, hp]; rfl
    rw [hh]
    refine (set_new w h s hs x hp hf).mono ?_
    rintro e w' ⟨rfl, v', h1, h2, h3⟩
    exact ⟨rfl, v', _, h1, by rw [live_snoc, setL_new x hh], by simp, h2, h3⟩
theorem blk_far {p m d : Nat} {v : Value} {L : Pls} {cs : Array Value} {T : TypeId} {w : World} (h1 : Blk d T cs w) (h : PlAt p v m L w) (t1 : T ≠ 181) (t2 : T ≠ 183) : ¬ FtP p v m d := by
  have hd : w.heap[d]? = _ := h1
  rintro (e | e | e)
  · have hb : w.heap[p]? = _ := h.blk
    rw [← e, hd] at hb
    injection hb with hb; injection hb with _ hb
    exact t1 hb
  · obtain ⟨es, clock, hm⟩ := mapN_block h.map
    rw [← e, hd] at hm; cases hm
  · obtain ⟨cur, hc⟩ := row_lt h.row e
    have hb : w.heap[d]? = _ := hc
    rw [hd] at hb
    injection hb with hb; injection hb with _ hb
    exact t2 hb

set_option maxHeartbeats 1000000 in
theorem dset_calls {S : Nat → Prop} {d n : Nat} {l : List Ent} (w : World) (h : DcS S d n l w) (hn : n ≤ 1000000) (s : ByteArray) (hs : s.size ≤ 1000000) (x : Vl) :
    Calls Tryz.prog 92 #[.pointer (some ⟨d, 0, none⟩), .string s, vlV x] w fun e w' => e = .returned (.bool (!hasL l s)) ∧
      DcS (Up S w) d (n + 1) (setL l s x) w' ∧ Keep S w w' := by
  have A := (Below.refl w.heap.size w).alloc (Nat.le_refl _) (Obj.cells #[.int .i64 x.1, .int .i64 x.2.1, .string x.2.2] 26)
  have HD := hid ((h.on A).on ((Below.refl _ _).drew))
  obtain ⟨p, v, m, L, h1, h2, rfl, h4, h5, h6⟩ := h
  have c0 : w.cell? ⟨d, 0, none⟩ = some (.pointer (some ⟨p, 0, none⟩)) := by rw [blk_cell h1]; rfl
  have hd := blk_lt h1
  have HF := hid (blk_far h1 h2 (by decide) (by decide))
  have HB := hid h1
  have HP := hid ((h2.on A).drew)
  have HA := hid A.drew
  have H2 := hid h2
  have HS := hid (set_calls _ HP.out s hs x (by omega))
  clear h1 h2 A
  unfold vlV at HS ⊢
  go_enter Tryz.func92, Tryz.ntmps92
  go_wp2_with fail
  refine wp_region_held_drew (S := fun a => a.cell? ⟨d, 0, none⟩ = some (.pointer (some ⟨p, 0, none⟩)) ∧ a.cell? ⟨w.heap.size, 0, none⟩ = some (.int .i64 x.1) ∧ a.cell? ⟨w.heap.size, 1, none⟩ = some (.int .i64 x.2.1) ∧ a.cell? ⟨w.heap.size, 2, none⟩ = some (.string x.2.2)) (by kernel_rfl) ?_ (fun hHeld => ?_)
  · refine ⟨?_, ?_, ?_, ?_⟩ <;> go_simp
  refine wpAnyH_take (i := 0) (v := ?v1) rfl (by kernel_rfl) (by kernel_rfl) (by kernel_rfl) (fun _ _ _ h => h) (Or.inl ⟨by rfl, ?hy1⟩) (by assumption) ?_
  case hy1 => (intro w hSw; go_simp <;> (try with_reducible rfl))
  simp only [Act.put, List.setIfInBounds_toArray, List.set_cons_zero, List.set_cons_succ, List.getElem_toArray, List.getElem_cons_succ, List.getElem_cons_zero]
  refine wpAnyH_ready (rs := [1]) (by kernel_rfl) (by simp) ?_
  refine AllReadyH.cons rfl (fun K hK => ?_) AllReadyH.nil
  go_simp
  refine (made_calls _ HD.out).mono ?_
  rintro e1 w1 ⟨rfl, rfl⟩
  go_simp
  refine hK.out _ _ hHeld (fun _ => ?_)
  clear hK K
  try simp only [Act.put, List.setIfInBounds_toArray, List.set_cons_zero, List.set_cons_succ, List.getElem_toArray, List.getElem_cons_succ, List.getElem_cons_zero]
  refine wpAnyH_take (i := 2) (v := ?v3) rfl (by kernel_rfl) (by kernel_rfl) (by kernel_rfl) (fun _ _ _ h => h) (Or.inl ⟨by rfl, ?hy3⟩) (by assumption) ?_
  case hy3 => (intro w hSw; go_simp <;> (try with_reducible rfl))
  simp only [Act.put, List.setIfInBounds_toArray, List.set_cons_zero, List.set_cons_succ, List.getElem_toArray, List.getElem_cons_succ, List.getElem_cons_zero]
  refine wpAnyH_take (i := 3) (v := ?v4) rfl (by kernel_rfl) (by kernel_rfl) (by kernel_rfl) (fun _ _ _ h => h) (Or.inl ⟨by rfl, ?hy4⟩) (by assumption) ?_
  case hy4 => (intro w hSw; go_simp <;> (try with_reducible rfl))
  simp only [Act.put, List.setIfInBounds_toArray, List.set_cons_zero, List.set_cons_succ, List.getElem_toArray, List.getElem_cons_succ, List.getElem_cons_zero]
  refine wpAnyH_take (i := 4) (v := ?v5) rfl (by kernel_rfl) (by kernel_rfl) (by kernel_rfl) (fun _ _ _ h => h) (Or.inl ⟨by rfl, ?hy5⟩) (by assumption) ?_
  case hy5 => (intro w hSw; go_simp <;> (try with_reducible rfl))
  simp only [Act.put, List.setIfInBounds_toArray, List.set_cons_zero, List.set_cons_succ, List.getElem_toArray, List.getElem_cons_succ, List.getElem_cons_zero]
  refine wpAnyH_take (i := 5) (v := ?v6) rfl (by kernel_rfl) (by kernel_rfl) (by kernel_rfl) (fun _ _ _ h => h) (Or.inl ⟨by rfl, ?hy6⟩) (by assumption) ?_
  case hy6 => (intro w hSw; go_simp <;> (try with_reducible rfl))
  simp only [Act.put, List.setIfInBounds_toArray, List.set_cons_zero, List.set_cons_succ, List.getElem_toArray, List.getElem_cons_succ, List.getElem_cons_zero]
  refine wpAnyH_take (i := 6) (v := ?v7) rfl (by kernel_rfl) (by kernel_rfl) (by kernel_rfl) (fun _ _ _ h => h) (Or.inl ⟨by rfl, ?hy7⟩) (by assumption) ?_
  case hy7 => (intro w hSw; go_simp <;> (try with_reducible rfl))
  simp only [Act.put, List.setIfInBounds_toArray, List.set_cons_zero, List.set_cons_succ, List.getElem_toArray, List.getElem_cons_succ, List.getElem_cons_zero]
  refine wpAnyH_take (i := 7) (v := ?v8) rfl (by kernel_rfl) (by kernel_rfl) (by kernel_rfl) (fun _ _ _ h => h) (Or.inl ⟨by rfl, ?hy8⟩) (by assumption) ?_
  case hy8 => (intro w hSw; go_simp <;> (try with_reducible rfl))
  simp only [Act.put, List.setIfInBounds_toArray, List.set_cons_zero, List.set_cons_succ, List.getElem_toArray, List.getElem_cons_succ, List.getElem_cons_zero]
  refine wpAnyH_take (i := 8) (v := ?v9) rfl (by kernel_rfl) (by kernel_rfl) (by kernel_rfl) (fun _ _ _ h => h) (Or.inl ⟨by rfl, ?hy9⟩) (by assumption) ?_
  case hy9 => (intro w hSw; go_simp <;> (try with_reducible rfl))
  simp only [Act.put, List.setIfInBounds_toArray, List.set_cons_zero, List.set_cons_succ, List.getElem_toArray, List.getElem_cons_succ, List.getElem_cons_zero]
  refine wpAnyH_ready (rs := [9]) (by kernel_rfl) (by simp) ?_
  refine AllReadyH.cons rfl (fun K hK => ?_) AllReadyH.nil
  go_simp
  refine HS.out.mono ?_
  rintro e2 w2 ⟨rfl, v', L', g1, g2, g3, g4, g5⟩
  have hsz := HA.out.size
  have KK : Keep S w w2 := (Keep.of HA.out).trans (g4.mono (fun b _ hb => h6 b hb)) (fun _ _ h => h)
  have bx : Blk w.heap.size 26 #[.int .i64 x.1, .int .i64 x.2.1, .string x.2.2] w2 := by
    refine blk_keep (blk_new w 26 #[.int .i64 x.1, .int .i64 x.2.1, .string x.2.2]) ?_ ?_ (S := FtP p v m)
    · exact (Keep.drew _ _).trans g4 (fun _ _ h => h)
    · intro hb
      have := H2.out.lt hb
      omega
  have bd : Blk d 170 #[.pointer (some ⟨p, 0, none⟩)] w2 := blk_keep (blk_on HB.out HA.out) g4 HF.out
  refine hK.out _ _ ⟨by rw [blk_cell bd]; rfl, by rw [blk_cell bx]; rfl, by rw [blk_cell bx]; rfl, by rw [blk_cell bx]; rfl⟩ (fun _ => ?_)
  have R : DcS (Up S w) d (n + 1) (setL (live L) s x) w2 := ⟨p, v', m, L', bd, g1, g2, by omega, .inl h5, fun b hb => by
    rcases g5 b hb with h | h
    · exact .inl (h6 b h)
    · exact .inr (by omega)⟩
  have RR := hid R
  have RK := hid KK
  clear hK K g1 g2 g4 g5 bx bd R KK
  try simp only [Act.put, List.setIfInBounds_toArray, List.set_cons_zero, List.set_cons_succ, List.getElem_toArray, List.getElem_cons_succ, List.getElem_cons_zero]
  refine wpAnyH_take (i := 10) (v := ?v11) rfl (by kernel_rfl) (by kernel_rfl) (by kernel_rfl) (fun _ _ _ h => h) (Or.inl ⟨by rfl, ?hy11⟩) (by assumption) ?_
  case hy11 => (intro w hSw; go_simp <;> (try with_reducible rfl))
  simp only [Act.put, List.setIfInBounds_toArray, List.set_cons_zero, List.set_cons_succ, List.getElem_toArray, List.getElem_cons_succ, List.getElem_cons_zero]
  refine wpAnyH_take (i := 11) (v := ?v12) rfl (by kernel_rfl) (by kernel_rfl) (by kernel_rfl) (fun _ _ _ h => h) (Or.inl ⟨by rfl, ?hy12⟩) (by assumption) ?_
  case hy12 => (intro w hSw; go_simp <;> (try with_reducible rfl))
  simp only [Act.put, List.setIfInBounds_toArray, List.set_cons_zero, List.set_cons_succ, List.getElem_toArray, List.getElem_cons_succ, List.getElem_cons_zero]
  refine wpAnyH_done (by kernel_rfl) ?_ _
  go_wp2_with fail
  go_ret
  exact ⟨rfl, RR.out, RK.out⟩

end Go.Proofs.YtemidicgipebjaaGreat

namespace Go.Proofs.YtemidicgipebjaaGreat
set_option linter.unusedSimpArgs false
set_option maxRecDepth 100000
open Go.RowKit

set_option maxHeartbeats 2000000 in
theorem pressed_calls {p m : Nat} {v : Value} {L : Pls} (w : World) (h : PlAt p v m L w) (hf : L.length ≤ 1000000) :
    Calls Tryz.prog 134 #[.pointer (some ⟨p, 0, none⟩)] w fun e w' => ∃ q u k, e = .returned (.pointer (some ⟨q, 0, none⟩)) ∧ PlAt q u k ((live L).map some) w' ∧ Below w.heap.size w w' ∧ ∀ b, FtP q u k b → w.heap.size ≤ b := by
  have H := hid h
  have hll := live_len L
  obtain ⟨ao, cap, rfl⟩ := row_shape h.row
  have hpm := h.lt (.inl rfl)
  clear h
  go_enter Tryz.func134, Tryz.ntmps134
  go_wp2_with fail
  refine (count_calls _ H.out).mono ?_
  rintro e1 w1 ⟨rfl, rfl⟩
  go_wp2_with fail
  refine (noPlaces_calls (live L).length (by omega) _).mono ?_
  rintro e2 w2 ⟨q, u, k, rfl, h1, h2, h3⟩
  have Q0 := hid h1
  have B0 := hid h2
  have H2 := hid (H.out.on h2)
  obtain ⟨d0, d1⟩ := H2.out.cells
  have hqs := h1.lt (.inl rfl)
  have hq0 := h3 q (.inl rfl)
  have FT := hid h3
  clear h1 h2 h3
  go_wp2_with fail
  go_loopw [14] (fun i wr => ∃ (j : Nat) (u' : Value), j ≤ L.length ∧ i = .int .i64 j ∧ Hid (PlAt q u' k ((live (L.take j)).map some) wr) ∧ Hid (Below w1.heap.size w1 wr) ∧ Hid (∀ b, FtP q u' k b → w1.heap.size ≤ b)) (fun i _ => L.length - (intOf i).toNat)
  case atStart => exact ⟨0, u, Nat.zero_le _, rfl, Q0, B0, FT⟩
  case round =>
    obtain ⟨j, u', hj, rfl, hQ, hB, hF⟩ := hrel
    by_cases hjl : j < L.length
    · have hL := H.out.on hB.out
      obtain ⟨o, ho⟩ : ∃ o, L[j]? = some o := ⟨L[j], List.getElem?_eq_getElem hjl⟩
      obtain ⟨g, cap', he, hgs, hc, _⟩ := hL.place ho
      injection he with he1 he2 he3
      subst he1 he3
      have hLT := hid (live_take ho)
      cases o with
      | none =>
        have c0 : wr.cell? ⟨g, j * 5, none⟩ = some (.bool false) := hc 0 (by omega)
        have c1 : wr.cell? ⟨g, j * 5 + 1, none⟩ = some (.string ⟨#[]⟩) := hc 1 (by omega)
        have c2 : wr.cell? ⟨g, j * 5 + 2, none⟩ = some (.int .i64 0) := hc 2 (by omega)
        have c3 : wr.cell? ⟨g, j * 5 + 3, none⟩ = some (.int .i64 0) := hc 3 (by omega)
        have c4 : wr.cell? ⟨g, j * 5 + 4, none⟩ = some (.string ⟨#[]⟩) := hc 4 (by omega)
        clear hc hL
        go_wp2_with fail
        have A := (Below.refl wr.heap.size wr).alloc (Nat.le_refl _) (Obj.cells #[.bool false, .string ⟨#[]⟩, .int .i64 0, .int .i64 0, .string ⟨#[]⟩] 183)
        refine ⟨⟨j + 1, u', by omega, by simp, ?_, hid (below_on hB.out A), hF⟩, by simp [intOf]; omega⟩
        rw [hLT.out, show live [none] = [] from rfl, List.append_nil]
        exact hid (hQ.out.on A)
      | some e =>
        have c0 : wr.cell? ⟨g, j * 5, none⟩ = some (.bool true) := hc 0 (by omega)
        have c1 : wr.cell? ⟨g, j * 5 + 1, none⟩ = some (.string e.1) := hc 1 (by omega)
        have c2 : wr.cell? ⟨g, j * 5 + 2, none⟩ = some (.int .i64 e.2.1) := hc 2 (by omega)
        have c3 : wr.cell? ⟨g, j * 5 + 3, none⟩ = some (.int .i64 e.2.2.1) := hc 3 (by omega)
        have c4 : wr.cell? ⟨g, j * 5 + 4, none⟩ = some (.string e.2.2.2) := hc 4 (by omega)
        have A := (Below.refl wr.heap.size wr).alloc (Nat.le_refl _) (Obj.cells #[.bool true, .string e.1, .int .i64 e.2.1, .int .i64 e.2.2.1, .string e.2.2.2] 183)
        have HB2 := hid (below_on hB.out A)
        have HSZ := hid HB2.out.size
        have hem : e ∈ live L := List.mem_filterMap.2 ⟨some e, List.mem_of_getElem? ho, rfl⟩
        have hl2 : (live (L.take j)).length ≤ 1000000 := by have := live_len (L.take j); rw [List.length_take] at this; omega
        have HS := hid (set_new _ (hQ.out.on A) e.1 (H.out.once.2 e hem) e.2 (posL_map (live_no H.out.once.1 ho)) (by rw [List.length_map]; exact hl2))
        unfold vlV at HS
        clear hc hL A
        go_wp2_with fail
        refine HS.out.mono ?_
        rintro e3 w3 ⟨rfl, u3, k1, k2, k3⟩
        have hz := hB.out.size
        have K1 := hid k1
        have B3 := hid (HB2.out.trans ((k2.below HSZ.out (fun b hb => hF.out b hb))))
        have F3 := hid (show ∀ b, FtP q u3 k b → w1.heap.size ≤ b from fun b hb => by
          rcases k3 b hb with h | h
          · exact hF.out b h
          · exact Nat.le_trans HSZ.out h)
        clear k1 k2 k3 HS hB hF hQ
        go_wp2_with fail
        refine ⟨⟨j + 1, u3, by omega, by simp, ?_, B3, F3⟩, by simp [intOf]; omega⟩
        rw [hLT.out, show live [some e] = [e] from rfl, List.map_append]
        exact K1
    · have hje : j = L.length := by omega
      subst hje
      rw [List.take_length] at hQ
      go_wp2_with fail
      go_ret
      exact ⟨q, u', k, rfl, hQ.out, hB.out, hF.out⟩

/-- a hole, in memory -/
theorem PlAt.hole {p m i g cap : Nat} {L : Pls} {s : ByteArray} {w w1 : World} (h : PlAt p (.slice (some ⟨g, 0, none⟩) L.length cap) m L w) (hp : posL L s = some i) (hM : MapN m (delF (posF L) s) (if (posF L s).isSome then (live L).length - 1 else (live L).length) w1) (g1 : w.grownBy w1 (some m)) :
    PlAt p (.slice (some ⟨g, 0, none⟩) L.length cap) m (L.set i none) (((((w1.setCell ⟨g, i * 5, none⟩ (.bool false)).setCell ⟨g, i * 5 + 1, none⟩ (.string ⟨#[]⟩)).setCell ⟨g, i * 5 + 2, none⟩ (.int .i64 0)).setCell ⟨g, i * 5 + 3, none⟩ (.int .i64 0)).setCell ⟨g, i * 5 + 4, none⟩ (.string ⟨#[]⟩)) ∧ Keep (FtP p (.slice (some ⟨g, 0, none⟩) L.length cap) m) w (((((w1.setCell ⟨g, i * 5, none⟩ (.bool false)).setCell ⟨g, i * 5 + 1, none⟩ (.string ⟨#[]⟩)).setCell ⟨g, i * 5 + 2, none⟩ (.int .i64 0)).setCell ⟨g, i * 5 + 3, none⟩ (.int .i64 0)).setCell ⟨g, i * 5 + 4, none⟩ (.string ⟨#[]⟩)) := by
  obtain ⟨h1, h2⟩ := posL_drop h.once.1 hp
  obtain ⟨n1, n2⟩ := h.ne
  obtain ⟨n3, n4⟩ := n2 g rfl
  have hil := posL_lt hp
  have k0 : Keep (fun b => b = m) w w1 := Keep.grown g1 (fun k e => by injection e with e; exact e.symm)
  have ks : ∀ (W : World) (j : Nat) (u : Value), Keep (fun b => b = g) W (W.setCell ⟨g, j, none⟩ u) := fun W j u => Keep.set (S := fun b => b = g) rfl W j u
  have K : Keep (fun b => b = g) w1 (((((w1.setCell ⟨g, i * 5, none⟩ (.bool false)).setCell ⟨g, i * 5 + 1, none⟩ (.string ⟨#[]⟩)).setCell ⟨g, i * 5 + 2, none⟩ (.int .i64 0)).setCell ⟨g, i * 5 + 3, none⟩ (.int .i64 0)).setCell ⟨g, i * 5 + 4, none⟩ (.string ⟨#[]⟩)) := ((((ks _ _ _).trans (ks _ _ _) (fun _ _ h => h)).trans (ks _ _ _) (fun _ _ h => h)).trans (ks _ _ _) (fun _ _ h => h)).trans (ks _ _ _) (fun _ _ h => h)
  have hg1 : w1.ownsRow 0 183 5 (.slice (some ⟨g, 0, none⟩) L.length cap) L.length (cellsP L) := row_keep h.row (fun b hb => by
    simp [Value.ownBlock] at hb
    subst hb
    exact k0.block g (h.lt (.inr (.inr rfl))) n4)
  have hmw : m < w1.heap.size := mapN_lt hM
  refine ⟨⟨blk_keep (blk_keep h.blk k0 (fun e => n1 e.symm)) K (fun e => n3 e.symm), ?_, ?_, ?_⟩, ?_⟩
  · have r := row_set (row_set (row_set (row_set (row_set hg1 (i * 5) (.bool false)) (i * 5 + 1) (.string ⟨#[]⟩)) (i * 5 + 2) (.int .i64 0)) (i * 5 + 3) (.int .i64 0)) (i * 5 + 4) (.string ⟨#[]⟩)
    rw [cellsP_set none hil rfl] at r
    rw [List.length_set]
    exact r
  · have hl := live_drop_len h.once.1 hp
    have := mapN_keep hM (K.block m hmw (fun e => n4 e.symm))
    rw [show (posF L s).isSome = true from by unfold posF; rw [hp]; rfl, if_pos rfl, show (live L).length - 1 = (live (L.set i none)).length by omega] at this
    refine mapN_ext this (fun y => ?_)
    unfold delF posF
    rw [h2]
    by_cases hy : y = s <;> simp [hy]
  · rw [h1]; exact ok_drop h.once
  · exact (k0.mono (fun b _ e => .inr (.inl e))).trans (K.mono (T := (FtP p (.slice (some ⟨g, 0, none⟩) L.length cap) m)) (fun b _ e => .inr (.inr (by rw [e]; rfl)))) (fun _ _ h => h)
theorem PlAt.hole1 {p m i g cap : Nat} {L : Pls} {e : Ent} {w w1 : World} (h : PlAt p (.slice (some ⟨g, 0, none⟩) L.length cap) m L w) (hu : L[i]? = some (some e)) (g1 : w.grownBy w1 (some m)) :
    w1.cell? ⟨p, 0, none⟩ = some (.slice (some ⟨g, 0, none⟩) L.length cap) ∧ w1.cell? ⟨g, i * 5, none⟩ = some (.bool true) ∧ w1.cell? ⟨g, i * 5 + 1, none⟩ = some (.string e.1) ∧ w1.cell? ⟨g, i * 5 + 2, none⟩ = some (.int .i64 e.2.1) ∧ w1.cell? ⟨g, i * 5 + 3, none⟩ = some (.int .i64 e.2.2.1) ∧ w1.cell? ⟨g, i * 5 + 4, none⟩ = some (.string e.2.2.2) ∧
      w1.frozen? ⟨g, i * 5, none⟩ = false ∧ w1.frozen? ⟨g, i * 5 + 1, none⟩ = false ∧ w1.frozen? ⟨g, i * 5 + 2, none⟩ = false ∧ w1.frozen? ⟨g, i * 5 + 3, none⟩ = false ∧ w1.frozen? ⟨g, i * 5 + 4, none⟩ = false := by
  obtain ⟨n1, n2⟩ := h.ne
  obtain ⟨n3, n4⟩ := n2 g rfl
  obtain ⟨g', cap', he, hgs, hc, fz⟩ := h.place hu
  injection he with he1 he2 he3
  injection he1 with he1
  injection he1 with he1
  subst he1
  have hp := h.lt (b := p) (.inl rfl)
  have cp : ∀ j, w1.cell? ⟨p, j, none⟩ = w.cell? ⟨p, j, none⟩ := fun j => World.cell?_of_block (g1.block p hp (by simpa using fun e => n1 e.symm))
  have cg : ∀ j, w1.cell? ⟨g, j, none⟩ = w.cell? ⟨g, j, none⟩ := fun j => World.cell?_of_block (g1.block g hgs (by simpa using n4))
  have fg : ∀ j, w1.frozen? ⟨g, j, none⟩ = false := fun j => (World.frozen?_of_block (g1.block g hgs (by simpa using n4))).trans (fz j)
  refine ⟨(cp 0).trans h.cells.1, (cg _).trans (hc 0 (by omega)), (cg _).trans (hc 1 (by omega)), (cg _).trans (hc 2 (by omega)), (cg _).trans (hc 3 (by omega)), (cg _).trans (hc 4 (by omega)), fg _, fg _, fg _, fg _, fg _⟩
/-- places are laid over others -/
theorem PlAt.over {p q m k : Nat} {v u : Value} {L M : Pls} {w : World} (hq : PlAt q u k M w) (h : PlAt p v m L w) (hd : ∀ b, FtP q u k b → ¬ FtP p v m b) :
    PlAt p u k M ((w.setCell ⟨p, 0, none⟩ u).setCell ⟨p, 1, none⟩ (.map (some k))) ∧ Keep (fun b => b = p) w ((w.setCell ⟨p, 0, none⟩ u).setCell ⟨p, 1, none⟩ (.map (some k))) := by
  have K := (Keep.set (S := fun b => b = p) rfl w 0 u).trans (Keep.set (S := fun b => b = p) rfl (w.setCell ⟨p, 0, none⟩ u) 1 (.map (some k))) (fun _ _ h => h)
  refine ⟨⟨blk_set (blk_set h.blk 0 u) 1 (.map (some k)), ?_, ?_, hq.once⟩, K⟩
  · exact row_keep hq.row (fun g hg => K.block g (hq.lt (.inr (.inr hg))) (fun e => hd g (.inr (.inr hg)) (.inl e)))
  · exact mapN_keep hq.map (K.block k (hq.lt (.inr (.inl rfl))) (fun e => hd k (.inr (.inl rfl)) (.inl e)))

theorem drop_none {p m : Nat} {v : Value} {L : Pls} (w : World) (h : PlAt p v m L w) (s : ByteArray) (hs : s.size ≤ 1000000) (hp : posL L s = none) :
    Calls Tryz.prog 119 #[.pointer (some ⟨p, 0, none⟩), .string s] w fun e w' => e = .returned (.bool false) ∧ w' = w := by
  obtain ⟨d0, d1⟩ := h.cells
  have hsl : s.size ≤ maxLen := by unfold maxLen; omega
  have hF : posF L s = none := by unfold posF; rw [hp]; rfl
  have HM := hid h.map
  clear h
  go_enter Tryz.func119, Tryz.ntmps119
  go_wp2_with (first | (at_lookup; refine wp_mlook rfl _ _ rfl m _ _ s rfl HM.out rfl hsl ?_; rw [hF]) | fail)
  go_ret
  exact ⟨rfl, rfl⟩

set_option maxHeartbeats 2000000 in
theorem drop_has {p m i : Nat} {v : Value} {L : Pls} (w : World) (h : PlAt p v m L w) (s : ByteArray) (hs : s.size ≤ 1000000) (hp : posL L s = some i) (hf : L.length ≤ 1000000) :
    Calls Tryz.prog 119 #[.pointer (some ⟨p, 0, none⟩), .string s] w fun e w' => e = .returned (.bool true) ∧
      ∃ v' m' L', PlAt p v' m' L' w' ∧ live L' = dropL (live L) s ∧ L'.length ≤ L.length ∧ Keep (FtP p v m) w w' ∧ ∀ b, FtP p v' m' b → FtP p v m b ∨ w.heap.size ≤ b := by
  obtain ⟨u, hu, hlk⟩ := posL_at hp
  have hil := posL_lt hp
  obtain ⟨g, cap, rfl, hgs, hc, fz⟩ := h.place hu
  obtain ⟨d0, d1⟩ := h.cells
  have hsl : s.size ≤ maxLen := by unfold maxLen; omega
  have hpm := h.lt (.inl rfl)
  have hF : posF L s = some (i : Int) := by unfold posF; rw [hp]; rfl
  have HM := hid h.map
  have HP := hid h
  clear h hlk
  go_enter Tryz.func119, Tryz.ntmps119
  go_wp2_with (first | (at_lookup; refine wp_mlook rfl _ _ rfl m _ _ s rfl HM.out rfl hsl ?_; rw [hF]) | fail | (at_delete; refine wp_mdel rfl _ _ rfl m _ _ s rfl HM.out rfl hsl ?_; intro w1 hM1 g1; obtain ⟨a0, a1, a2, a3, a4, a5, f1, f2, f3, f4, f5⟩ := HP.out.hole1 hu g1; have HH := hid (HP.out.hole hp hM1 g1); clear hM1 g1))
  clear a0 a1 a2 a3 a4 a5 f1 f2 f3 f4 f5 hc fz
  generalize (((((w1.setCell ⟨g, i * 5, none⟩ (.bool false)).setCell ⟨g, i * 5 + 1, none⟩ (.string ⟨#[]⟩)).setCell ⟨g, i * 5 + 2, none⟩ (.int .i64 0)).setCell ⟨g, i * 5 + 3, none⟩ (.int .i64 0)).setCell ⟨g, i * 5 + 4, none⟩ (.string ⟨#[]⟩)) = w2 at *
  obtain ⟨P2, K2⟩ := HH.out
  have hD := hid (posL_drop HP.out.once.1 hp).1
  have hlen : (L.set i none).length = L.length := List.length_set
  have hll := live_len (L.set i none)
  generalize hL' : L.set i none = L' at *
  have P2' : PlAt p (.slice (some ⟨g, 0, none⟩) L'.length cap) m L' w2 := by rw [hlen]; exact P2
  obtain ⟨b0, b1⟩ := P2.cells
  have HP2 := hid P2'
  have HK2 := hid K2
  have hpw2 := P2.lt (b := p) (.inl rfl)
  clear HH P2 K2 P2'
  have HO := hid (holes_calls _ HP2.out.drew (by omega))
  have hlf : L'.length ≤ 1000000 := by omega
  obtain ⟨N, hN⟩ : ∃ N, L'.length - (live L').length = N := ⟨_, rfl⟩
  rw [hN] at HO
  have hN2 : N ≤ 1000000 := by omega
  have e1 : IntKind.i64.wrap (2 * (N : Int)) = 2 * (N : Int) := by rw [IntKind.wrap_i64]; omega
  have HLN := hid hlen
  clear hlen hN hll
  refine wp_region_held_drew (S := fun a => a.cell? ⟨p, 0, none⟩ = some (.slice (some ⟨g, 0, none⟩) L.length cap)) (by kernel_rfl) b0 (fun hHeld => ?_)
  refine wpAnyH_take (i := 0) (v := ?v1) rfl (by kernel_rfl) (by kernel_rfl) (by kernel_rfl) (fun _ _ _ h => h) (Or.inl ⟨by rfl, ?hy1⟩) (by assumption) ?_
  case hy1 => (intro w hSw; go_simp <;> (try with_reducible rfl))
  simp only [Act.put, List.setIfInBounds_toArray, List.set_cons_zero, List.set_cons_succ, List.getElem_toArray, List.getElem_cons_succ, List.getElem_cons_zero]
  refine wpAnyH_take (i := 3) (v := ?v2) rfl (by kernel_rfl) (by kernel_rfl) (by kernel_rfl) (fun _ _ _ h => h) (Or.inl ⟨by rfl, ?hy2⟩) (by assumption) ?_
  case hy2 => (intro w hSw; go_simp <;> (try with_reducible rfl))
  simp only [Act.put, List.setIfInBounds_toArray, List.set_cons_zero, List.set_cons_succ, List.getElem_toArray, List.getElem_cons_succ, List.getElem_cons_zero]
  refine wpAnyH_take (i := 4) (v := ?v3) rfl (by kernel_rfl) (by kernel_rfl) (by kernel_rfl) (fun _ _ _ h => h) (Or.inl ⟨by rfl, ?hy3⟩) (by assumption) ?_
  case hy3 => (intro w hSw; go_simp <;> (try with_reducible rfl))
  simp only [Act.put, List.setIfInBounds_toArray, List.set_cons_zero, List.set_cons_succ, List.getElem_toArray, List.getElem_cons_succ, List.getElem_cons_zero]
  refine wpAnyH_take (i := 5) (v := ?v4) rfl (by kernel_rfl) (by kernel_rfl) (by kernel_rfl) (fun _ _ _ h => h) (Or.inl ⟨by rfl, ?hy4⟩) (by assumption) ?_
  case hy4 => (intro w hSw; go_simp <;> (try with_reducible rfl))
  simp only [Act.put, List.setIfInBounds_toArray, List.set_cons_zero, List.set_cons_succ, List.getElem_toArray, List.getElem_cons_succ, List.getElem_cons_zero]
  refine wpAnyH_take (i := 6) (v := ?v5) rfl (by kernel_rfl) (by kernel_rfl) (by kernel_rfl) (fun _ _ _ h => h) (Or.inl ⟨by rfl, ?hy5⟩) (by assumption) ?_
  case hy5 => (intro w hSw; go_simp <;> (try with_reducible rfl))
  simp only [Act.put, List.setIfInBounds_toArray, List.set_cons_zero, List.set_cons_succ, List.getElem_toArray, List.getElem_cons_succ, List.getElem_cons_zero]
  refine wpAnyH_take (i := 7) (v := ?v6) rfl (by kernel_rfl) (by kernel_rfl) (by kernel_rfl) (fun _ _ _ h => h) (Or.inl ⟨by rfl, ?hy6⟩) (by assumption) ?_
  case hy6 => (intro w hSw; go_simp <;> (try with_reducible rfl))
  simp only [Act.put, List.setIfInBounds_toArray, List.set_cons_zero, List.set_cons_succ, List.getElem_toArray, List.getElem_cons_succ, List.getElem_cons_zero]
  refine wpAnyH_ready (rs := [1]) (by kernel_rfl) (by simp) ?_
  refine AllReadyH.cons rfl (fun K hK => ?_) AllReadyH.nil
  go_simp
  refine HO.out.mono ?_
  rintro e3 w3 ⟨rfl, B3⟩
  have c3 : w3.cell? ⟨p, 0, none⟩ = some (.slice (some ⟨g, 0, none⟩) L.length cap) := (B3.cell (p := ⟨p, 0, none⟩) hpw2).trans b0
  have c4 : w3.cell? ⟨p, 1, none⟩ = some (.map (some m)) := (B3.cell (p := ⟨p, 1, none⟩) hpw2).trans b1
  have HP3 := hid (HP2.out.drew.on B3)
  have HK3 := hid (HK2.out.trans (Keep.of (S := FtP p (.slice (some ⟨g, 0, none⟩) L.length cap) m) ((Below.refl _ _).drew.trans B3)) (fun _ _ h => h))
  refine hK.out _ _ c3 (fun _ => ?_)
  clear hK K HO HP2 HK2 B3 hHeld
  try simp only [Act.put, List.setIfInBounds_toArray, List.set_cons_zero, List.set_cons_succ, List.getElem_toArray, List.getElem_cons_succ, List.getElem_cons_zero]
  refine wpAnyH_take (i := 2) (v := ?v8) rfl (by kernel_rfl) (by kernel_rfl) (by kernel_rfl) (fun _ _ _ h => h) (Or.inl ⟨by rfl, ?hy8⟩) (by assumption) ?_
  case hy8 => (intro w hSw; go_simp <;> (try with_reducible rfl))
  simp only [Act.put, List.setIfInBounds_toArray, List.set_cons_zero, List.set_cons_succ, List.getElem_toArray, List.getElem_cons_succ, List.getElem_cons_zero]
  refine wpAnyH_take (i := 8) (v := ?v9) rfl (by kernel_rfl) (by kernel_rfl) (by kernel_rfl) (fun _ _ _ h => h) (Or.inl ⟨by rfl, ?hy9⟩) (by assumption) ?_
  case hy9 => (intro w hSw; go_simp <;> (try with_reducible rfl))
  simp only [Act.put, List.setIfInBounds_toArray, List.set_cons_zero, List.set_cons_succ, List.getElem_toArray, List.getElem_cons_succ, List.getElem_cons_zero]
  refine wpAnyH_done (by kernel_rfl) ?_ _
  by_cases hbig : L.length ≤ 2 * N
  · have d : decide ((L.length : Int) ≤ 2 * (N : Int)) = true := decide_eq_true (by omega)
    go_wp2_with fail
    refine (pressed_calls _ HP3.out hlf).mono ?_
    rintro e4 w4 ⟨q, u4, k4, rfl, h1, h2, h3⟩
    obtain ⟨a4, q4, rfl⟩ := row_shape h1.row
    simp only [List.length_map] at h1 h3
    have P4 := HP3.out.on h2
    have hpq : ∀ b, FtP q (.slice a4 (live L').length q4) k4 b → ¬ FtP p (.slice (some ⟨g, 0, none⟩) L'.length cap) m b := fun b hb h => by
      have := h3 b hb
      have := HP3.out.lt h
      omega
    have OV := hid (h1.over P4 hpq)
    obtain ⟨c5, c6⟩ := h1.cells
    obtain ⟨c7, c8⟩ := P4.cells
    have f7 : w4.frozen? ⟨p, 0, none⟩ = false := blk_free P4.blk 0
    have f8 : w4.frozen? ⟨p, 1, none⟩ = false := blk_free P4.blk 1
    have hqp : q ≠ p := fun e => hpq q (.inl rfl) (.inl e)
    have HK4 := hid (HK3.out.trans (Keep.of (S := FtP p (.slice (some ⟨g, 0, none⟩) L.length cap) m) h2) (fun _ _ h => h))
    have H3 := hid h3
    have hs3 := HK3.out.size
    clear h1 h2 h3 P4 hpq
    go_wp2_with fail
    go_ret
    refine ⟨rfl, _, k4, (live L').map some, OV.out.1, (live_some _).trans hD.out, ?_, HK4.out.trans (OV.out.2.mono (T := FtP p (.slice (some ⟨g, 0, none⟩) L.length cap) m) (fun b _ e => .inl e)) (fun _ _ h => h), ?_⟩
    · rw [List.length_map]
      exact Nat.le_trans (live_len L') (Nat.le_of_eq HLN.out)
    · rintro b (rfl | h)
      · exact .inl (.inl rfl)
      · exact .inr (Nat.le_trans hs3 (H3.out b (.inr h)))
  · have d : decide ((L.length : Int) ≤ 2 * (N : Int)) = false := decide_eq_false (by omega)
    go_wp2_with fail
    go_ret
    refine ⟨rfl, _, m, L', HP3.out, hD.out, Nat.le_of_eq HLN.out, HK3.out, fun b hb => .inl ?_⟩
    rcases hb with h | h | h
    · exact .inl h
    · exact .inr (.inl h)
    · exact .inr (.inr h)
theorem drop_calls {p m : Nat} {v : Value} {L : Pls} (w : World) (h : PlAt p v m L w) (s : ByteArray) (hs : s.size ≤ 1000000) (hf : L.length ≤ 1000000) :
    Calls Tryz.prog 119 #[.pointer (some ⟨p, 0, none⟩), .string s] w fun e w' => e = .returned (.bool (hasL (live L) s)) ∧
      ∃ v' m' L', PlAt p v' m' L' w' ∧ live L' = dropL (live L) s ∧ L'.length ≤ L.length ∧ Keep (FtP p v m) w w' ∧ ∀ b, FtP p v' m' b → FtP p v m b ∨ w.heap.size ≤ b := by
  cases hp : posL L s with
  | some i =>
    rw [show hasL (live L) s = true from by rw [← posL_has, hp]; rfl]
    exact drop_has w h s hs hp hf
  | none =>
    have hh : hasL (live L) s = false := by rw [← posL_has, hp]; rfl
    rw [hh]
    refine (drop_none w h s hs hp).mono ?_
    rintro e w' ⟨rfl, rfl⟩
    exact ⟨rfl, v, m, L, h, (dropL_none hh).symm, Nat.le_refl _, Keep.refl _ _, fun b hb => .inl hb⟩

end Go.Proofs.YtemidicgipebjaaGreat

namespace Go.Proofs.YtemidicgipebjaaGreat
set_option linter.unusedSimpArgs false
set_option maxRecDepth 100000
open Go.RowKit

set_option maxHeartbeats 1000000 in
theorem ddel_calls {S : Nat → Prop} {d n : Nat} {l : List Ent} (w : World) (h : DcS S d n l w) (hn : n ≤ 1000000) (s : ByteArray) (hs : s.size ≤ 1000000) :
    Calls Tryz.prog 93 #[.pointer (some ⟨d, 0, none⟩), .string s] w fun e w' => e = .returned (.bool (hasL l s)) ∧
      DcS (Up S w) d n (dropL l s) w' ∧ Keep S w w' := by
  have HD := hid h
  obtain ⟨p, v, m, L, h1, h2, rfl, h4, h5, h6⟩ := h
  have c0 : w.cell? ⟨d, 0, none⟩ = some (.pointer (some ⟨p, 0, none⟩)) := by rw [blk_cell h1]; rfl
  have HF := hid (blk_far h1 h2 (by decide) (by decide))
  have HB := hid h1
  have HS := hid (drop_calls _ h2 s hs (by omega))
  clear h1 h2
  go_enter Tryz.func93, Tryz.ntmps93
  go_wp2_with fail
  refine (made_calls _ HD.out).mono ?_
  rintro e1 w1 ⟨rfl, rfl⟩
  go_wp2_with fail
  refine HS.out.mono ?_
  rintro e2 w2 ⟨rfl, v', m', L', g1, g2, g3, g4, g5⟩
  have RR := hid (show DcS (Up S w1) d n (dropL (live L) s) w2 from ⟨p, v', m', L', blk_keep HB.out g4 HF.out, g1, g2, by omega, .inl h5, fun b hb => by
    rcases g5 b hb with h | h
    · exact .inl (h6 b h)
    · exact .inr h⟩)
  have RK := hid (g4.mono (T := S) (fun b _ hb => h6 b hb))
  clear g1 g2 g4 g5
  go_wp2_with fail
  go_ret
  exact ⟨rfl, RR.out, RK.out⟩

/-- the i-th of those that are left -/
theorem nth_skip {L : Pls} {j r : Nat} (h : L[j]? = some none) : (live (L.drop j))[r]? = (live (L.drop (j + 1)))[r]? := by
  obtain ⟨hl, he⟩ := List.getElem?_eq_some_iff.1 h
  rw [List.drop_eq_getElem_cons hl, he]; rfl
theorem nth_here {L : Pls} {j : Nat} {e : Ent} (h : L[j]? = some (some e)) : live (L.drop j) = e :: live (L.drop (j + 1)) := by
  obtain ⟨hl, he⟩ := List.getElem?_eq_some_iff.1 h
  rw [List.drop_eq_getElem_cons hl, he]; rfl

set_option maxHeartbeats 2000000 in
theorem nth_calls {p m i : Nat} {v : Value} {L : Pls} {x : Ent} (w : World) (h : PlAt p v m L w) (hf : L.length ≤ 1000000) (hi : (live L)[i]? = some x) :
    Calls Tryz.prog 172 #[.pointer (some ⟨p, 0, none⟩), .int .i64 (i : Int)] w fun e w' => e = .returned (.string x.1) ∧ Below w.heap.size w w' := by
  have hil : i < (live L).length := (List.getElem?_eq_some_iff.1 hi).1
  have hll := live_len L
  obtain ⟨ao, cap, rfl⟩ := row_shape h.row
  have hpm := h.lt (.inl rfl)
  have HO := hid (holes_calls _ h hf)
  have HP := hid h
  obtain ⟨N, hN⟩ : ∃ N, L.length - (live L).length = N := ⟨_, rfl⟩
  rw [hN] at HO
  obtain ⟨d0, d1⟩ := h.cells
  clear h
  go_enter Tryz.func172, Tryz.ntmps172
  go_wp2_with fail
  refine HO.out.mono ?_
  rintro e1 w1 ⟨rfl, b1⟩
  have c0 : w1.cell? ⟨p, 0, none⟩ = some (.slice ao L.length cap) := (b1.cell (p := ⟨p, 0, none⟩) hpm).trans d0
  have HB := hid b1
  by_cases h0 : N = 0
  · subst h0
    have hfl : L = (live L).map some := full_some (by omega)
    have hx : L[i]? = some (some x) := by rw [hfl]; simp [hi]
    obtain ⟨g, cap', he, hgs, hc, _⟩ := (HP.out.on b1).place hx
    injection he with he1 he2 he3
    subst he1 he3
    have c1 : w1.cell? ⟨g, i * 5 + 1, none⟩ = some (.string x.1) := hc 1 (by omega)
    have hiL : i < L.length := by omega
    clear hc b1 hfl hN hx
    go_wp2_with fail
    go_ret
    exact ⟨rfl, HB.out⟩
  · have hb0 : decide ((N : Int) = 0) = false := decide_eq_false (by omega)
    have HI := hid hi
    clear b1 hi hN
    go_wp2_with fail
    go_loopw [1, 23] (fun a b wr => ∃ (j r : Nat), j ≤ L.length ∧ b = .int .i64 j ∧ a = .int .i64 r ∧ Hid ((live (L.drop j))[r]? = some x) ∧ r ≤ 1000000 ∧ Hid (Below w.heap.size w wr)) (fun _ b _ => L.length - (intOf b).toNat)
    case atStart => exact ⟨0, i, Nat.zero_le _, rfl, rfl, HI, by omega, HB⟩
    case round =>
      obtain ⟨j, r, hj, rfl, rfl, hX, hr, hB⟩ := hrel
      have hjl : j < L.length := by
        rcases Nat.lt_or_ge j L.length with h | h
        · exact h
        · have := hX.out
          rw [List.drop_eq_nil_of_le h] at this
          simp [live] at this
      obtain ⟨o, ho⟩ : ∃ o, L[j]? = some o := ⟨L[j], List.getElem?_eq_getElem hjl⟩
      obtain ⟨g, cap', he, hgs, hc, _⟩ := (HP.out.on hB.out).place ho
      injection he with he1 he2 he3
      subst he1 he3
      cases o with
      | none =>
        have c1 : wr.cell? ⟨g, j * 5, none⟩ = some (.bool false) := hc 0 (by omega)
        have c2 : wr.cell? ⟨g, j * 5 + 1, none⟩ = some (.string ⟨#[]⟩) := hc 1 (by omega)
        have c3 : wr.cell? ⟨g, j * 5 + 2, none⟩ = some (.int .i64 0) := hc 2 (by omega)
        have c4 : wr.cell? ⟨g, j * 5 + 3, none⟩ = some (.int .i64 0) := hc 3 (by omega)
        have c5 : wr.cell? ⟨g, j * 5 + 4, none⟩ = some (.string ⟨#[]⟩) := hc 4 (by omega)
        have hX2 := hid ((nth_skip ho).symm.trans hX.out)
        clear hc
        go_wp2_with fail
        exact ⟨⟨j + 1, r, by omega, by simp, rfl, hX2, hr, hid (below_on hB.out ((Below.refl _ _).alloc (Nat.le_refl _) _))⟩, by simp [intOf]; omega⟩
      | some e =>
        have c1 : wr.cell? ⟨g, j * 5, none⟩ = some (.bool true) := hc 0 (by omega)
        have c2 : wr.cell? ⟨g, j * 5 + 1, none⟩ = some (.string e.1) := hc 1 (by omega)
        have c3 : wr.cell? ⟨g, j * 5 + 2, none⟩ = some (.int .i64 e.2.1) := hc 2 (by omega)
        have c4 : wr.cell? ⟨g, j * 5 + 3, none⟩ = some (.int .i64 e.2.2.1) := hc 3 (by omega)
        have c5 : wr.cell? ⟨g, j * 5 + 4, none⟩ = some (.string e.2.2.2) := hc 4 (by omega)
        have hX2 := hX.out
        rw [nth_here ho] at hX2
        clear hc
        cases r with
        | zero =>
          have hex : e = x := by simpa using hX2
          subst hex
          clear hX2
          go_wp2_with fail
          go_ret
          exact ⟨rfl, below_on hB.out ((Below.refl _ _).alloc (Nat.le_refl _) _)⟩
        | succ r =>
          have hX3 := hid (show (live (L.drop (j + 1)))[r]? = some x by simpa using hX2)
          have hr0 : decide (((r + 1 : Nat) : Int) = 0) = false := decide_eq_false (by omega)
          have er : ((r + 1 : Nat) : Int) - 1 = (r : Int) := by omega
          clear hX2
          go_wp2_with fail
          exact ⟨⟨j + 1, r, by omega, by simp, rfl, hX3, by omega, hid (below_on hB.out ((Below.refl _ _).alloc (Nat.le_refl _) _))⟩, by simp [intOf]; omega⟩

/-- the name of the i-th, or none -/
def keyAt (l : List Ent) (i : Int) : Option ByteArray := if 0 ≤ i ∧ i < l.length then (l[i.toNat]?).map (·.1) else none
theorem key_none {S : Nat → Prop} {d n : Nat} {l : List Ent} (w : World) (h : DcS S d n l w) (i : Int) (hi : ¬ (0 ≤ i ∧ i < l.length)) :
    Calls Tryz.prog 170 #[.pointer (some ⟨d, 0, none⟩), .int .i64 i] w fun e w' => e = .returned (.tuple #[.string ⟨#[]⟩, .bool false]) ∧ w' = w := by
  have HL := hid (len_calls w h)
  clear h
  by_cases h0 : i < 0
  · clear hi
    go_enter Tryz.func170, Tryz.ntmps170
    go_wp2_with fail
    go_ret2
    exact ⟨rfl, rfl⟩
  · have h1 : decide (i < 0) = false := decide_eq_false h0
    have h2 : decide ((l.length : Int) ≤ i) = true := decide_eq_true (by omega)
    clear hi h0
    go_enter Tryz.func170, Tryz.ntmps170
    go_wp2_with fail
    refine HL.out.mono ?_
    rintro e1 w1 ⟨rfl, rfl⟩
    go_wp2_with fail
    go_ret2
    exact ⟨rfl, rfl⟩
theorem key_some {S : Nat → Prop} {d n i : Nat} {l : List Ent} {x : Ent} (w : World) (h : DcS S d n l w) (hn : n ≤ 1000000) (hi : l[i]? = some x) :
    Calls Tryz.prog 170 #[.pointer (some ⟨d, 0, none⟩), .int .i64 (i : Int)] w fun e w' => e = .returned (.tuple #[.string x.1, .bool true]) ∧ Below w.heap.size w w' := by
  have HL := hid (len_calls w h)
  obtain ⟨p, v, m, L, h1, h2, rfl, h4, h5, h6⟩ := h
  have c0 : w.cell? ⟨d, 0, none⟩ = some (.pointer (some ⟨p, 0, none⟩)) := by rw [blk_cell h1]; rfl
  have HN := hid (nth_calls w h2 (by omega) hi)
  have hil : i < (live L).length := (List.getElem?_eq_some_iff.1 hi).1
  have q2 : decide (((live L).length : Int) ≤ (i : Int)) = false := decide_eq_false (by omega)
  clear h1 h2 hi
  go_enter Tryz.func170, Tryz.ntmps170
  go_wp2_with fail
  refine HL.out.mono ?_
  rintro e1 w1 ⟨rfl, rfl⟩
  go_wp2_with fail
  refine HN.out.mono ?_
  rintro e1 w2 ⟨rfl, b2⟩
  have HB := hid b2
  clear b2 HN
  go_wp2_with fail
  go_ret2
  exact ⟨rfl, HB.out⟩

/-- texts of one's own, from block lo on -/
def StrsOwn (lo : Nat) (v : Value) (l : List ByteArray) (w : World) : Prop := w.ownsRow 0 9 1 v l.length (l.map Value.string) ∧ ∀ g, v.ownBlock = some g → lo ≤ g
theorem strsOwn_on {lo : Nat} {v : Value} {l : List ByteArray} {a c : World} (h : StrsOwn lo v l a) (k : Below a.heap.size a c) : StrsOwn lo v l c :=
  ⟨row_keep h.1 (fun g hg => k.block g (by obtain ⟨cur, hc⟩ := row_lt h.1 hg; exact blk_lt hc)), h.2⟩
theorem strsOwn_keep {S : Nat → Prop} {lo : Nat} {v : Value} {l : List ByteArray} {a c : World} (h : StrsOwn lo v l a) (k : Keep S a c) (hS : ∀ g, v.ownBlock = some g → ¬ S g) : StrsOwn lo v l c :=
  ⟨row_keep h.1 (fun g hg => k.block g (by obtain ⟨cur, hc⟩ := row_lt h.1 hg; exact blk_lt hc) (hS g hg)), h.2⟩
/-- one text more -/
theorem strs_app {ops : Array Oper} {rest : List Oper} {o : Oper} {a : Act} {Q : Exit → Act → World → Prop} {w : World} (hgd : o.guard = none) (s x : Operand)
    (ho : o.op = .call { callee := .builtin .append, args := #[s, x], argTypes := #[62, 62] })
    (lo : Nat) (l : List ByteArray) (t : ByteArray) (v : Value) (hs : a.eval s = v) (hown : StrsOwn lo v l w)
    (nb : Nat) (hx : a.eval x = .slice (some ⟨nb, 0, none⟩) 1 1) (hnb : nb = w.heap.size) (hlen : l.length ≤ 1000000) (hlo : lo ≤ w.heap.size)
    (h : ∀ g cap w', StrsOwn lo (.slice (some ⟨g, 0, none⟩) (l.length + 1) cap) (l ++ [t]) w' → w.grownBy w' v.ownBlock → (v.ownBlock = some g ∨ w.heap.size ≤ g) → wpList Tryz.prog ops Q rest (a.put o.dst (.slice (some ⟨g, 0, none⟩) (l.length + 1) cap)) w') :
    wpList Tryz.prog ops Q (o :: rest) a (w.alloc (.cells #[.string t] 9)) := by
  subst hnb
  obtain ⟨i0, hi, hz0, hz1, hz2⟩ := infoS
  have A := (Below.refl w.heap.size w).alloc (Nat.le_refl _) (.cells #[.string t] 9)
  refine wpList_append_lies _ hgd s x 62 ho 0 9 i0 _ 1 16 underS hi hz0 hz1 hz2 rfl (by decide) v l.length _ hs (strsOwn_on hown A).1 ⟨w.heap.size, 0, none⟩ 1 1 [.string t] hx rfl (World.news_of_block (heap_alloc_new w (.cells #[.string t] 9))) ?_ (by decide) (by unfold maxLen; omega) (by omega) (Nat.zero_le _) (w.heap.size + 1) (by simp) ?_
  · intro u hu
    simp at hu
    subst hu; rfl
  · intro g cap w' hown' hgrow hat hlt
    refine h g cap w' ⟨by simpa using hown', fun k hk => ?_⟩ ?_ ?_
    · simp [Value.ownBlock] at hk
      subst hk
      rcases hat with h1 | h1
      · exact hown.2 _ h1
      · omega
    · refine ⟨hgrow.os.trans A.os, hgrow.tape.trans A.tape, hgrow.output.trans A.output, Nat.le_trans A.size hgrow.size, fun k hk hne => ?_⟩
      rw [hgrow.block k (by simp; omega) hne, A.block k hk]
    · rcases hat with h1 | h1
      · exact .inl h1
      · exact .inr (by omega)

end Go.Proofs.YtemidicgipebjaaGreat
