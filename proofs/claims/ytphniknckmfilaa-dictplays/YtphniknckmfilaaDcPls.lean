/- Places with holes, in memory. -/
import Derived.Test.YtphniknckmfilaaDcMem
import Derived.BigQuiet
namespace Go.Proofs.Ytphniknckmfilaa
set_option linter.unusedSimpArgs false
open Go.RowKit

def cellsO : Option Ent → List Value
  | none => [.bool false, .string ⟨#[]⟩, .int .i64 0, .int .i64 0, .string ⟨#[]⟩]
  | some e => [.bool true, .string e.1, .int .i64 e.2.1, .int .i64 e.2.2.1, .string e.2.2.2]
def cellsP (L : Pls) : List Value := L.flatMap cellsO
theorem cellsO_len (o : Option Ent) : (cellsO o).length = 5 := by cases o <;> rfl
theorem cellsP_len : ∀ L : Pls, (cellsP L).length = L.length * 5
  | [] => rfl
  | o :: r => by
    have := cellsP_len r
    simp only [cellsP, List.flatMap_cons, List.length_append, cellsO_len, List.length_cons] at this ⊢
    omega
theorem cellsP_append (L M : Pls) : cellsP (L ++ M) = cellsP L ++ cellsP M := by simp [cellsP]
theorem cellsP_at : ∀ {L : Pls} {i j : Nat} {o : Option Ent}, L[i]? = some o → j < 5 → (cellsP L)[i * 5 + j]? = (cellsO o)[j]?
  | [], i, j, o, h, _ => by simp at h
  | x :: r, 0, j, o, h, hj => by
    simp at h
    subst h
    show (cellsO x ++ cellsP r)[0 * 5 + j]? = _
    rw [Nat.zero_mul, Nat.zero_add, List.getElem?_append_left (by rw [cellsO_len]; exact hj)]
  | x :: r, i + 1, j, o, h, hj => by
    show (cellsO x ++ cellsP r)[(i + 1) * 5 + j]? = _
    rw [List.getElem?_append_right (by rw [cellsO_len]; omega), cellsO_len, show (i + 1) * 5 + j - 5 = i * 5 + j by omega]
    exact cellsP_at (by simpa using h) hj
theorem cellsO_one (o : Option Ent) : ∀ u ∈ cellsO o, u.oneCell' = true := by
  intro u hu
  cases o <;> simp [cellsO] at hu <;> rcases hu with rfl | rfl | rfl | rfl | rfl <;> rfl
/-- a place is written over -/
theorem cellsP_set : ∀ {L : Pls} {i : Nat} (o : Option Ent), i < L.length → ∀ {a b c d e : Value}, cellsO o = [a, b, c, d, e] →
    (((((cellsP L).set (i * 5) a).set (i * 5 + 1) b).set (i * 5 + 2) c).set (i * 5 + 3) d).set (i * 5 + 4) e = cellsP (L.set i o)
  | [], i, o, h, _, _, _, _, _, _ => by simp at h
  | x :: r, 0, o, h, a, b, c, d, e, he => by
    have hx : ∃ p q s t u, cellsO x = [p, q, s, t, u] := by cases x <;> exact ⟨_, _, _, _, _, rfl⟩
    obtain ⟨p, q, s, t, u, hx⟩ := hx
    show (((((cellsO x ++ cellsP r).set (0 * 5) a).set (0 * 5 + 1) b).set (0 * 5 + 2) c).set (0 * 5 + 3) d).set (0 * 5 + 4) e = cellsO o ++ cellsP r
    rw [hx, he]; rfl
  | x :: r, i + 1, o, h, a, b, c, d, e, he => by
    have hx : ∃ p q s t u, cellsO x = [p, q, s, t, u] := by cases x <;> exact ⟨_, _, _, _, _, rfl⟩
    obtain ⟨p, q, s, t, u, hx⟩ := hx
    have ih := cellsP_set (L := r) (i := i) o (by simpa using h) he
    show (((((cellsO x ++ cellsP r).set ((i + 1) * 5) a).set ((i + 1) * 5 + 1) b).set ((i + 1) * 5 + 2) c).set ((i + 1) * 5 + 3) d).set ((i + 1) * 5 + 4) e = cellsO x ++ cellsP (r.set i o)
    rw [← ih, hx, show (i + 1) * 5 = i * 5 + 1 + 1 + 1 + 1 + 1 by omega, show i * 5 + 1 + 1 + 1 + 1 + 1 + 1 = (i * 5 + 1) + 1 + 1 + 1 + 1 + 1 by omega]
    rfl
theorem set_same {l : List Value} {i : Nat} {u : Value} (h : l[i]? = some u) : l.set i u = l := by
  apply List.ext_getElem?
  intro j
  rw [List.getElem?_set]
  split
  · rename_i e
    subst e
    split
    · exact h.symm
    · rename_i h2
      rw [List.getElem?_eq_none (by omega)]
  · rfl
/-- .. its value alone -/
theorem cellsP_set3 {L : Pls} {i : Nat} {s : ByteArray} {u : Vl} (h : L[i]? = some (some (s, u))) (v : Vl) :
    ((((cellsP L).set (i * 5 + 2) (.int .i64 v.1)).set (i * 5 + 2 + 1) (.int .i64 v.2.1)).set (i * 5 + 2 + 2) (.string v.2.2)) = cellsP (L.set i (some (s, v))) := by
  have hl : i < L.length := (List.getElem?_eq_some_iff.1 h).1
  rw [← cellsP_set (some (s, v)) hl rfl]
  have e0 : (cellsP L).set (i * 5) (.bool true) = cellsP L := by
    have := cellsP_at (j := 0) h (by omega)
    simp [cellsO] at this
    exact set_same (by simpa using this)
  have e1 : (cellsP L).set (i * 5 + 1) (.string s) = cellsP L := by
    have := cellsP_at (j := 1) h (by omega)
    simp [cellsO] at this
    exact set_same (by simpa using this)
  simp only [e0, e1]

/-- where the map leads -/
def posF (L : Pls) (s : ByteArray) : Option Int := (posL L s).map (fun i => (i : Int))
theorem posF_some (L : Pls) (s : ByteArray) : (posF L s).isSome = hasL (live L) s := by
  rw [← posL_has]; unfold posF; cases posL L s <;> rfl

/-- places at p: their list is v, their map is at m -/
structure PlAt (p : Nat) (v : Value) (m : Nat) (L : Pls) (w : World) : Prop where
  blk : Blk p 59 #[v, .map (some m)] w
  row : w.ownsRow 0 62 5 v L.length (cellsP L)
  map : MapN m (posF L) (live L).length w
  once : OkL (live L)
/-- the blocks that they are made of -/
def FtP (p : Nat) (v : Value) (m : Nat) (b : Nat) : Prop := b = p ∨ b = m ∨ v.ownBlock = some b
theorem PlAt.keep {p m : Nat} {v : Value} {L : Pls} {a c : World} (h : PlAt p v m L a) (hk : ∀ b, FtP p v m b → c.heap[b]? = a.heap[b]?) : PlAt p v m L c :=
  ⟨(hk p (.inl rfl)).trans h.blk, row_keep h.row (fun g hg => hk g (.inr (.inr hg))), mapN_keep h.map (hk m (.inr (.inl rfl))), h.once⟩
theorem PlAt.lt {p m b : Nat} {v : Value} {L : Pls} {w : World} (h : PlAt p v m L w) (hb : FtP p v m b) : b < w.heap.size := by
  rcases hb with rfl | rfl | hb
  · exact blk_lt h.blk
  · exact mapN_lt h.map
  · obtain ⟨cur, hc⟩ := row_lt h.row hb
    exact blk_lt hc
theorem PlAt.on {p m : Nat} {v : Value} {L : Pls} {a c : World} (h : PlAt p v m L a) (k : Below a.heap.size a c) : PlAt p v m L c :=
  h.keep fun b hb => k.block b (h.lt hb)
theorem PlAt.ne {p m : Nat} {v : Value} {L : Pls} {w : World} (h : PlAt p v m L w) : m ≠ p ∧ (∀ g, v.ownBlock = some g → g ≠ p ∧ g ≠ m) := by
  obtain ⟨es, clock, hm⟩ := mapN_block h.map
  have hp : w.heap[p]? = _ := h.blk
  refine ⟨fun e => ?_, fun g hg => ⟨fun e => ?_, fun e => ?_⟩⟩
  · rw [e, hp] at hm; cases hm
  · obtain ⟨cur, hc⟩ := row_lt h.row hg
    unfold Blk at hc
    rw [e, hp] at hc; cases hc
  · obtain ⟨cur, hc⟩ := row_lt h.row hg
    unfold Blk at hc
    rw [e, hm] at hc; cases hc
theorem PlAt.drew {p m : Nat} {v : Value} {L : Pls} {w : World} (h : PlAt p v m L w) : PlAt p v m L w.drew := h.on (Below.refl _ _).drew
theorem PlAt.cells {p m : Nat} {v : Value} {L : Pls} {w : World} (h : PlAt p v m L w) : w.cell? ⟨p, 0, none⟩ = some v ∧ w.cell? ⟨p, 1, none⟩ = some (.map (some m)) :=
  ⟨by rw [blk_cell h.blk]; rfl, by rw [blk_cell h.blk]; rfl⟩

theorem yield_mlen {o : Oper} {a : Act} {w : World} {mo : Operand} {m c : Nat} {f : ByteArray → Option Int} (hop : o.op = Op.call { callee := Callee.builtin Builtin.len, args := #[mo], argTypes := #[57] })
    (hm : a.eval mo = .map (some m)) (hM : MapN m f c w) : (execOp a.eval o).run Try.prog w = .ok (.value (.int .i64 c)) w := by
  simp [execOp, hop, resolve, invoke, builtin, hm, run_mlen hM, Result.andThen]
theorem count_calls {p m : Nat} {v : Value} {L : Pls} (w : World) (h : PlAt p v m L w) :
    Calls Try.prog 26 #[.pointer (some ⟨p, 0, none⟩)] w fun e w' => e = .returned (.int .i64 (live L).length) ∧ w' = w := by
  have H := hid h.map
  obtain ⟨c0, c1⟩ := h.cells
  clear h
  go_enter Try.func26, Try.ntmps26
  go_wp2_with (first | (at_len; refine wp_mlen rfl _ rfl m _ _ rfl H.out ?_) | fail)
  go_ret
  exact ⟨rfl, rfl⟩

theorem holes_calls {p m : Nat} {v : Value} {L : Pls} (w : World) (h : PlAt p v m L w) (hf : L.length ≤ 1000000) :
    Calls Try.prog 33 #[.pointer (some ⟨p, 0, none⟩)] w fun e w' => e = .returned (.int .i64 ((L.length - (live L).length : Nat) : Int)) ∧ Below w.heap.size w w' := by
  have HL := live_len L
  have HX := hid h
  obtain ⟨ao, cap, rfl⟩ := row_shape h.row
  have HC := hid h.cells
  have e1 : IntKind.i64.wrap ((L.length : Int) - ((live L).length : Int)) = ((L.length - (live L).length : Nat) : Int) := by
    rw [IntKind.wrap_i64]; omega
  clear h
  go_enter Try.func33, Try.ntmps33
  go_wp2_with fail
  refine wp_region_held_drew (S := fun a => a = w.drew) (by kernel_rfl) rfl (fun hHeld => ?_)
  refine wpAnyH_take (i := 0) (v := ?v1) rfl (by kernel_rfl) (by kernel_rfl) (by kernel_rfl) (fun _ _ _ h => h) (Or.inl ⟨by rfl, ?hy1⟩) (by assumption) ?_
  case hy1 => (intro w hSw; go_simp <;> (try with_reducible rfl))
  simp only [Act.put, List.setIfInBounds_toArray, List.set_cons_zero, List.set_cons_succ, List.getElem_toArray, List.getElem_cons_succ, List.getElem_cons_zero]
  refine wpAnyH_take (i := 1) (v := ?v2) rfl (by kernel_rfl) (by kernel_rfl) (by kernel_rfl) (fun _ _ _ h => h) (Or.inl ⟨by rfl, ?hy2⟩) (by assumption) ?_
  case hy2 => (intro w hSw; go_simp <;> (try with_reducible rfl))
  simp only [Act.put, List.setIfInBounds_toArray, List.set_cons_zero, List.set_cons_succ, List.getElem_toArray, List.getElem_cons_succ, List.getElem_cons_zero]
  refine wpAnyH_take (i := 2) (v := ?v3) rfl (by kernel_rfl) (by kernel_rfl) (by kernel_rfl) (fun _ _ _ h => h) (Or.inl ⟨by rfl, ?hy3⟩) (by assumption) ?_
  case hy3 => (intro w hSw; go_simp <;> (try with_reducible rfl))
  simp only [Act.put, List.setIfInBounds_toArray, List.set_cons_zero, List.set_cons_succ, List.getElem_toArray, List.getElem_cons_succ, List.getElem_cons_zero]
  refine wpAnyH_take (i := 3) (v := ?v4) rfl (by kernel_rfl) (by kernel_rfl) (by kernel_rfl) (fun _ _ _ h => h) (Or.inl ⟨by rfl, ?hy4⟩) (by assumption) ?_
  case hy4 => (intro a hSw; subst hSw; obtain ⟨c0, c1⟩ := HC.out; go_simp <;> (try with_reducible rfl))
  simp only [Act.put, List.setIfInBounds_toArray, List.set_cons_zero, List.set_cons_succ, List.getElem_toArray, List.getElem_cons_succ, List.getElem_cons_zero]
  refine wpAnyH_take (i := 4) (v := ?v5) rfl (by kernel_rfl) (by kernel_rfl) (by kernel_rfl) (fun _ _ _ h => h) (Or.inl ⟨by rfl, ?hy5⟩) (by assumption) ?_
  case hy5 => (intro w hSw; go_simp <;> (try with_reducible rfl))
  simp only [Act.put, List.setIfInBounds_toArray, List.set_cons_zero, List.set_cons_succ, List.getElem_toArray, List.getElem_cons_succ, List.getElem_cons_zero]
  refine wpAnyH_take (i := 5) (v := ?v6) rfl (by kernel_rfl) (by kernel_rfl) (by kernel_rfl) (fun _ _ _ h => h) (Or.inl ⟨by rfl, ?hy6⟩) (by assumption) ?_
  case hy6 => (intro w hSw; go_simp <;> (try with_reducible rfl))
  simp only [Act.put, List.setIfInBounds_toArray, List.set_cons_zero, List.set_cons_succ, List.getElem_toArray, List.getElem_cons_succ, List.getElem_cons_zero]
  refine wpAnyH_take (i := 6) (v := ?v7) rfl (by kernel_rfl) (by kernel_rfl) (by kernel_rfl) (fun _ _ _ h => h) (Or.inl ⟨by rfl, ?hy7⟩) (by assumption) ?_
  case hy7 => (intro w hSw; go_simp <;> (try with_reducible rfl))
  simp only [Act.put, List.setIfInBounds_toArray, List.set_cons_zero, List.set_cons_succ, List.getElem_toArray, List.getElem_cons_succ, List.getElem_cons_zero]
  refine wpAnyH_take (i := 7) (v := ?v8) rfl (by kernel_rfl) (by kernel_rfl) (by kernel_rfl) (fun _ _ _ h => h) (Or.inl ⟨by rfl, ?hy8⟩) (by assumption) ?_
  case hy8 => (intro w hSw; go_simp <;> (try with_reducible rfl))
  simp only [Act.put, List.setIfInBounds_toArray, List.set_cons_zero, List.set_cons_succ, List.getElem_toArray, List.getElem_cons_succ, List.getElem_cons_zero]
  refine wpAnyH_take (i := 8) (v := ?v9) rfl (by kernel_rfl) (by kernel_rfl) (by kernel_rfl) (fun _ _ _ h => h) (Or.inl ⟨by rfl, ?hy9⟩) (by assumption) ?_
  case hy9 => (intro a hSw; subst hSw; obtain ⟨c0, c1⟩ := HC.out; go_simp <;> (try with_reducible rfl))
  simp only [Act.put, List.setIfInBounds_toArray, List.set_cons_zero, List.set_cons_succ, List.getElem_toArray, List.getElem_cons_succ, List.getElem_cons_zero]
  refine wpAnyH_take (i := 9) (v := ?v10) rfl (by kernel_rfl) (by kernel_rfl) (by kernel_rfl) (fun _ _ _ h => h) (Or.inl ⟨by rfl, ?hy10⟩) (by assumption) ?_
  case hy10 => (intro a hSw; subst hSw; refine yield_mlen (mo := .tmp 11) ?_ ?_ HX.out.drew.map <;> rfl)
  simp only [Act.put, List.setIfInBounds_toArray, List.set_cons_zero, List.set_cons_succ, List.getElem_toArray, List.getElem_cons_succ, List.getElem_cons_zero]
  refine wpAnyH_take (i := 10) (v := ?v11) rfl (by kernel_rfl) (by kernel_rfl) (by kernel_rfl) (fun _ _ _ h => h) (Or.inl ⟨by rfl, ?hy11⟩) (by assumption) ?_
  case hy11 => (intro w hSw; go_simp <;> (try with_reducible rfl))
  simp only [Act.put, List.setIfInBounds_toArray, List.set_cons_zero, List.set_cons_succ, List.getElem_toArray, List.getElem_cons_succ, List.getElem_cons_zero]
  refine wpAnyH_take (i := 11) (v := ?v12) rfl (by kernel_rfl) (by kernel_rfl) (by kernel_rfl) (fun _ _ _ h => h) (Or.inl ⟨by rfl, ?hy12⟩) (by assumption) ?_
  case hy12 => (intro w hSw; go_simp <;> (try with_reducible rfl))
  simp only [Act.put, List.setIfInBounds_toArray, List.set_cons_zero, List.set_cons_succ, List.getElem_toArray, List.getElem_cons_succ, List.getElem_cons_zero]
  refine wpAnyH_done (by kernel_rfl) ?_ _
  go_wp2
  go_ret
  exact ⟨rfl, (Below.refl _ _).drew⟩

end Go.Proofs.Ytphniknckmfilaa
