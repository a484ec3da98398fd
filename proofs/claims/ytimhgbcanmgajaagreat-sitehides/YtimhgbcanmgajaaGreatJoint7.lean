/- Places with holes, in memory. New places, and a new dict. -/
import Derived.Test.YtimhgbcanmgajaaGreatJoint2
import Derived.Test.YtimhgbcanmgajaaGreatJoint3
import Derived.BigQuiet
namespace Go.Proofs.YtimhgbcanmgajaaGreat
set_option linter.unusedSimpArgs false
set_option maxRecDepth 100000
open Go.RowKit

def cellsO : Option Ent → List Value
  | none => [.bool false, .string ⟨#[]⟩, .int .i64 0, .int .i64 0, .string ⟨#[]⟩]
  | some e => [.bool true, .string e.1, .int .i64 e.2.1, .int .i64 e.2.2.1, .string e.2.2.2]
def cellsP (L : Pls) : List Value := L.flatMap cellsO
theorem cellsO_len (o : Option Ent) : (cellsO o).length = 5 := by cases o <;> rfl
theorem cellsP_len : ∀ L : Pls, (cellsP L).length = L.length * 5
  | [] => rfl
  | o :: r => by
    have := cellsP_len r
    simp only [cellsP, List.flatMap_cons, List.length_append, cellsO_len, List.length_cons] at this ⊢
    omega
theorem cellsP_append (L M : Pls) : cellsP (L ++ M) = cellsP L ++ cellsP M := by simp [cellsP]
theorem cellsP_at : ∀ {L : Pls} {i j : Nat} {o : Option Ent}, L[i]? = some o → j < 5 → (cellsP L)[i * 5 + j]? = (cellsO o)[j]?
  | [], i, j, o, h, _ => by simp at h
  | x :: r, 0, j, o, h, hj => by
    simp at h
    subst h
    show (cellsO x ++ cellsP r)[0 * 5 + j]? = _
    rw [Nat.zero_mul, Nat.zero_add, List.getElem?_append_left (by rw [cellsO_len]; exact hj)]
  | x :: r, i + 1, j, o, h, hj => by
    show (cellsO x ++ cellsP r)[(i + 1) * 5 + j]? = _
    rw [List.getElem?_append_right (by rw [cellsO_len]; omega), cellsO_len, show (i + 1) * 5 + j - 5 = i * 5 + j by omega]
    exact cellsP_at (by simpa using h) hj
theorem cellsO_one (o : Option Ent) : ∀ u ∈ cellsO o, u.oneCell' = true := by
  intro u hu
  cases o <;> simp [cellsO] at hu <;> rcases hu with rfl | rfl | rfl | rfl | rfl <;> rfl
/-- a place is written over -/
theorem cellsP_set : ∀ {L : Pls} {i : Nat} (o : Option Ent), i < L.length → ∀ {a b c d e : Value}, cellsO o = [a, b, c, d, e] →
    (((((cellsP L).set (i * 5) a).set (i * 5 + 1) b).set (i * 5 + 2) c).set (i * 5 + 3) d).set (i * 5 + 4) e = cellsP (L.set i o)
  | [], i, o, h, _, _, _, _, _, _ => by simp at h
  | x :: r, 0, o, h, a, b, c, d, e, he => by
    have hx : ∃ p q s t u, cellsO x = [p, q, s, t, u] := by cases x <;> exact ⟨_, _, _, _, _, rfl⟩
    obtain ⟨p, q, s, t, u, hx⟩ := hx
    show (((((cellsO x ++ cellsP r).set (0 * 5) a).set (0 * 5 + 1) b).set (0 * 5 + 2) c).set (0 * 5 + 3) d).set (0 * 5 + 4) e = cellsO o ++ cellsP r
    rw [hx, he]; rfl
  | x :: r, i + 1, o, h, a, b, c, d, e, he => by
    have hx : ∃ p q s t u, cellsO x = [p, q, s, t, u] := by cases x <;> exact ⟨_, _, _, _, _, rfl⟩
    obtain ⟨p, q, s, t, u, hx⟩ := hx
    have ih := cellsP_set (L := r) (i := i) o (by simpa using h) he
    show (((((cellsO x ++ cellsP r).set ((i + 1) * 5) a).set ((i + 1) * 5 + 1) b).set ((i + 1) * 5 + 2) c).set ((i + 1) * 5 + 3) d).set ((i + 1) * 5 + 4) e = cellsO x ++ cellsP (r.set i o)
    rw [← ih, hx, show (i + 1) * 5 = i * 5 + 1 + 1 + 1 + 1 + 1 by omega, show i * 5 + 1 + 1 + 1 + 1 + 1 + 1 = (i * 5 + 1) + 1 + 1 + 1 + 1 + 1 by omega]
    rfl
theorem set_same {l : List Value} {i : Nat} {u : Value} (h : l[i]? = some u) : l.set i u = l := by
  apply List.ext_getElem?
  intro j
  rw [List.getElem?_set]
  split
  · rename_i e
    subst e
    split
    · exact h.symm
    · rename_i h2
      rw [List.getElem?_eq_none (by omega)]
  · rfl
/-- .. its value alone -/
theorem cellsP_set3 {L : Pls} {i : Nat} {s : ByteArray} {u : Vl} (h : L[i]? = some (some (s, u))) (v : Vl) :
    ((((cellsP L).set (i * 5 + 2) (.int .i64 v.1)).set (i * 5 + 2 + 1) (.int .i64 v.2.1)).set (i * 5 + 2 + 2) (.string v.2.2)) = cellsP (L.set i (some (s, v))) := by
  have hl : i < L.length := (List.getElem?_eq_some_iff.1 h).1
  rw [← cellsP_set (some (s, v)) hl rfl]
  have e0 : (cellsP L).set (i * 5) (.bool true) = cellsP L := by
    have := cellsP_at (j := 0) h (by omega)
    simp [cellsO] at this
    exact set_same (by simpa using this)
  have e1 : (cellsP L).set (i * 5 + 1) (.string s) = cellsP L := by
    have := cellsP_at (j := 1) h (by omega)
    simp [cellsO] at this
    exact set_same (by simpa using this)
  simp only [e0, e1]

/-- where the map leads -/
def posF (L : Pls) (s : ByteArray) : Option Int := (posL L s).map (fun i => (i : Int))
theorem posF_some (L : Pls) (s : ByteArray) : (posF L s).isSome = hasL (live L) s := by
  rw [← posL_has]; unfold posF; cases posL L s <;> rfl

/-- places at p: their list is v, their map is at m -/
structure PlAt (p : Nat) (v : Value) (m : Nat) (L : Pls) (w : World) : Prop where
  blk : Blk p 269 #[v, .map (some m)] w
  row : w.ownsRow 0 272 5 v L.length (cellsP L)
  map : MapN m (posF L) (live L).length w
  once : OkL (live L)
/-- the blocks that they are made of -/
def FtP (p : Nat) (v : Value) (m : Nat) (b : Nat) : Prop := b = p ∨ b = m ∨ v.ownBlock = some b
theorem PlAt.keep {p m : Nat} {v : Value} {L : Pls} {a c : World} (h : PlAt p v m L a) (hk : ∀ b, FtP p v m b → c.heap[b]? = a.heap[b]?) : PlAt p v m L c :=
  ⟨(hk p (.inl rfl)).trans h.blk, row_keep h.row (fun g hg => hk g (.inr (.inr hg))), mapN_keep h.map (hk m (.inr (.inl rfl))), h.once⟩
theorem PlAt.lt {p m b : Nat} {v : Value} {L : Pls} {w : World} (h : PlAt p v m L w) (hb : FtP p v m b) : b < w.heap.size := by
  rcases hb with rfl | rfl | hb
  · exact blk_lt h.blk
  · exact mapN_lt h.map
  · obtain ⟨cur, hc⟩ := row_lt h.row hb
    exact blk_lt hc
theorem PlAt.on {p m : Nat} {v : Value} {L : Pls} {a c : World} (h : PlAt p v m L a) (k : Below a.heap.size a c) : PlAt p v m L c :=
  h.keep fun b hb => k.block b (h.lt hb)
theorem PlAt.ne {p m : Nat} {v : Value} {L : Pls} {w : World} (h : PlAt p v m L w) : m ≠ p ∧ (∀ g, v.ownBlock = some g → g ≠ p ∧ g ≠ m) := by
  obtain ⟨es, clock, hm⟩ := mapN_block h.map
  have hp : w.heap[p]? = _ := h.blk
  refine ⟨fun e => ?_, fun g hg => ⟨fun e => ?_, fun e => ?_⟩⟩
  · rw [e, hp] at hm; cases hm
  · obtain ⟨cur, hc⟩ := row_lt h.row hg
    unfold Blk at hc
    rw [e, hp] at hc; cases hc
  · obtain ⟨cur, hc⟩ := row_lt h.row hg
    unfold Blk at hc
    rw [e, hm] at hc; cases hc
theorem PlAt.drew {p m : Nat} {v : Value} {L : Pls} {w : World} (h : PlAt p v m L w) : PlAt p v m L w.drew := h.on (Below.refl _ _).drew
theorem PlAt.cells {p m : Nat} {v : Value} {L : Pls} {w : World} (h : PlAt p v m L w) : w.cell? ⟨p, 0, none⟩ = some v ∧ w.cell? ⟨p, 1, none⟩ = some (.map (some m)) :=
  ⟨by rw [blk_cell h.blk]; rfl, by rw [blk_cell h.blk]; rfl⟩

theorem yield_mlen {o : Oper} {a : Act} {w : World} {mo : Operand} {m c : Nat} {f : ByteArray → Option Int} (hop : o.op = Op.call { callee := Callee.builtin Builtin.len, args := #[mo], argTypes := #[223] })
    (hm : a.eval mo = .map (some m)) (hM : MapN m f c w) : (execOp a.eval o).run Tryz.prog w = .ok (.value (.int .i64 c)) w := by
  simp [execOp, hop, resolve, invoke, builtin, hm, run_mlen hM, Result.andThen]
theorem dccount_calls {p m : Nat} {v : Value} {L : Pls} (w : World) (h : PlAt p v m L w) :
    Calls Tryz.prog 179 #[.pointer (some ⟨p, 0, none⟩)] w fun e w' => e = .returned (.int .i64 (live L).length) ∧ w' = w := by
  have H := hid h.map
  obtain ⟨c0, c1⟩ := h.cells
  clear h
  go_enter Tryz.func179, Tryz.ntmps179
  go_wp2_with (first | (at_len; refine wp_mlen rfl _ rfl m _ _ rfl H.out ?_) | fail)
  go_ret
  exact ⟨rfl, rfl⟩

theorem holes_calls {p m : Nat} {v : Value} {L : Pls} (w : World) (h : PlAt p v m L w) (hf : L.length ≤ 1000000) :
    Calls Tryz.prog 170 #[.pointer (some ⟨p, 0, none⟩)] w fun e w' => e = .returned (.int .i64 ((L.length - (live L).length : Nat) : Int)) ∧ Below w.heap.size w w' := by
  have HL := live_len L
  have HX := hid h
  obtain ⟨ao, cap, rfl⟩ := row_shape h.row
  have HC := hid h.cells
  have e1 : IntKind.i64.wrap ((L.length : Int) - ((live L).length : Int)) = ((L.length - (live L).length : Nat) : Int) := by
    rw [IntKind.wrap_i64]; omega
  clear h
  go_enter Tryz.func170, Tryz.ntmps170
  go_wp2_with fail
  refine wp_region_held_drew (S := fun a => a = w.drew) (by kernel_rfl) rfl (fun hHeld => ?_)
  refine tkk 0 ?_
  refine tkk 1 ?_
  refine tkk 2 ?_
  refine tk 3 (v := ?v4) ?y4 ?_
  case y4 => (intro a hSw; subst hSw; obtain ⟨c0, c1⟩ := HC.out; go_simp <;> (try with_reducible rfl))
  refine tkk 4 ?_
  refine tkk 5 ?_
  refine tkk 6 ?_
  refine tkk 7 ?_
  refine tk 8 (v := ?v9) ?y9 ?_
  case y9 => (intro a hSw; subst hSw; obtain ⟨c0, c1⟩ := HC.out; go_simp <;> (try with_reducible rfl))
  refine tk 9 (v := ?v10) ?y10 ?_
  case y10 => (intro a hSw; subst hSw; refine yield_mlen (mo := .tmp 11) ?_ ?_ HX.out.drew.map <;> rfl)
  refine tkk 10 ?_
  refine tkk 11 ?_
  refine wpAnyH_done (by kernel_rfl) ?_ _
  go_wp2
  go_ret
  exact ⟨rfl, (Below.refl _ _).drew⟩

end Go.Proofs.YtimhgbcanmgajaaGreat

namespace Go.Proofs.YtimhgbcanmgajaaGreat
set_option linter.unusedSimpArgs false
set_option maxRecDepth 100000
open Go.RowKit

theorem infoP : ∃ i0, Tryz.prog.info? 272 = some i0 ∧ i0.zero = some (.agg #[.bool false, .string ⟨#[]⟩, .int .i64 0, .int .i64 0, .string ⟨#[]⟩]) ∧ i0.size = 5 ∧ i0.bytes = 56 :=
  info_parts (show (Tryz.prog.info? 272).map (fun i => (i.zero, i.size, i.bytes)) = some (some (.agg #[.bool false, .string ⟨#[]⟩, .int .i64 0, .int .i64 0, .string ⟨#[]⟩]), 5, 56) by kernel_rfl)
theorem underP : Tryz.prog.underlying 267 = some (.slice 272) := by kernel_rfl
theorem infoS : ∃ i0, Tryz.prog.info? 9 = some i0 ∧ i0.zero = some (.string ⟨#[]⟩) ∧ i0.size = 1 ∧ i0.bytes = 16 :=
  info_parts (show (Tryz.prog.info? 9).map (fun i => (i.zero, i.size, i.bytes)) = some (some (.string ⟨#[]⟩), 1, 16) by kernel_rfl)
theorem underS : Tryz.prog.underlying 56 = some (.slice 9) := by kernel_rfl

/-- make([]T, 0, c) as a step of a region that draws -/
theorem step_make {ops : Array Oper} {o : Oper} {a : Act} {K : Act → World → Prop} {Q : Exit → Act → World → Prop} {E : Prop} {w : World} (hg : o.guard = none) (x y : Operand) (t e : TypeId) (hop : o.op = Op.makeSlice t x y)
    (i : TypeInfo) (z : Value) (size bytes c : Nat) (ht : Tryz.prog.underlying t = some (.slice e)) (hi : Tryz.prog.info? e = some i) (hz : i.zero = some z) (hs : i.size = size) (hb : i.bytes = bytes) (hx : a.eval x = .int .i64 0) (hy : a.eval y = .int .i64 (c : Int))
    (hc : c ≤ 1000000) (hsm : bytes ≤ 1000)
    (hK : ∀ cur : Array Value, cur.size = c * size → K (a.put o.dst (.slice (some ⟨w.heap.size, 0, none⟩) 0 c)) (w.alloc (.cells cur e))) : if Region.wanted o (yielded ops a.tmps) = true then Oper.wp Tryz.prog o a w K Q else E := by
  rw [if_pos (by simp [Region.wanted, hg])]
  have hb2 : (i.bytes : Int) * (c : Int) ≤ 281474976710656 := by
    rw [hb]
    have h1 : ((bytes * c : Nat) : Int) ≤ ((1000 * 1000000 : Nat) : Int) := Int.ofNat_le.2 (Nat.mul_le_mul hsm hc)
    rw [Int.natCast_mul] at h1
    omega
  have hr := run_make (P := Tryz.prog) w t e i z ht hi hz .i64 .i64 0 c (Int.le_refl _) (by omega) hb2 (by omega)
  simp only [Int.toNat_zero, Int.toNat_natCast] at hr
  unfold Oper.wp
  simp [execOp, hop, hx, hy, hr, Result.andThen]
  exact hK _ (by rw [size_madeCells, hs])
theorem wp_make {ops : Array Oper} {rest : List Oper} {o : Oper} {a : Act} {Q : Exit → Act → World → Prop} {w : World} (hg : o.guard = none) (x y : Operand) (t e : TypeId) (hop : o.op = Op.makeSlice t x y)
    (i : TypeInfo) (z : Value) (size bytes c : Nat) (ht : Tryz.prog.underlying t = some (.slice e)) (hi : Tryz.prog.info? e = some i) (hz : i.zero = some z) (hs : i.size = size) (hb : i.bytes = bytes) (hx : a.eval x = .int .i64 0) (hy : a.eval y = .int .i64 (c : Int))
    (hc : c ≤ 1000000) (hsm : bytes ≤ 1000)
    (hK : ∀ cur : Array Value, cur.size = c * size → wpList Tryz.prog ops Q rest (a.put o.dst (.slice (some ⟨w.heap.size, 0, none⟩) 0 c)) (w.alloc (.cells cur e))) : wpList Tryz.prog ops Q (o :: rest) a w :=
  wpList_plain hg fun _ hK' => by
    have := step_make (ops := ops) (E := False) (Q := Q) hg x y t e hop i z size bytes c ht hi hz hs hb hx hy hc hsm (fun cur hcur => hK' _ _ (hK cur hcur))
    rwa [if_pos (by simp [Region.wanted, hg])] at this
/-- make(map[string]int, n) -/
theorem step_mmap {ops : Array Oper} {o : Oper} {a : Act} {K : Act → World → Prop} {Q : Exit → Act → World → Prop} {E : Prop} {w : World} (hg : o.guard = none) (y : Operand) (hop : o.op = Op.makeMap 223 (some y))
    (c : Nat) (hy : a.eval y = .int .i64 (c : Int))
    (hK : K (a.put o.dst (.map (some w.heap.size))) (w.alloc (.map #[] 0))) : if Region.wanted o (yielded ops a.tmps) = true then Oper.wp Tryz.prog o a w K Q else E := by
  rw [if_pos (by simp [Region.wanted, hg])]
  unfold Oper.wp
  simp [execOp, hop, hy, Instr.makeMap, Result.andThen]
  exact hK
theorem row_made {T : TypeId} {z c g : Nat} {cur : Array Value} {w : World} (h : Blk g T cur w) (hc : cur.size = c * z) (hl : c ≤ 1000000) : w.ownsRow 0 T z (.slice (some ⟨g, 0, none⟩) 0 c) 0 [] :=
  ⟨by simp, .inr ⟨g, c, cur, rfl, Nat.zero_le _, h, Nat.zero_le _, by unfold maxLen; omega, hc, by simp⟩⟩

theorem new_one {w : World} {cur : Array Value} {c : Nat} (hcur : cur.size = c * 5) (hc : c ≤ 1000000) {g m p : Nat} (hg : g = w.heap.size) (hm : m = w.heap.size + 1) (hp : p = w.heap.size + 1 + 1) :
    ∃ v' m', PlAt p v' m' [] (((w.alloc (.cells cur 272)).alloc (.map #[] 0)).alloc (.cells #[.slice (some ⟨g, 0, none⟩) 0 c, .map (some m)] 269)).drew ∧
      Below w.heap.size w (((w.alloc (.cells cur 272)).alloc (.map #[] 0)).alloc (.cells #[.slice (some ⟨g, 0, none⟩) 0 c, .map (some m)] 269)).drew ∧ ∀ b, FtP p v' m' b → w.heap.size ≤ b := by
  subst hg hm hp
  have b1 := (Below.refl w.heap.size w).alloc (Nat.le_refl _) (.cells cur 272)
  have b2 := b1.alloc (by simp) (.map #[] 0)
  have b3 := b2.alloc (by simp; omega) (.cells #[.slice (some ⟨w.heap.size, 0, none⟩) 0 c, .map (some (w.heap.size + 1))] 269)
  have h2 : Below (w.alloc (.cells cur 272)).heap.size (w.alloc (.cells cur 272)) (((w.alloc (.cells cur 272)).alloc (.map #[] 0)).alloc (.cells #[.slice (some ⟨w.heap.size, 0, none⟩) 0 c, .map (some (w.heap.size + 1))] 269)).drew :=
    (((Below.refl _ _).alloc (Nat.le_refl _) _).alloc (by simp) _).drew
  refine ⟨_, w.heap.size + 1, ⟨?_, row_made (blk_on (blk_new w _ cur) h2) hcur hc, ?_, okL_nil⟩, b3.drew, ?_⟩
  · have := blk_new ((w.alloc (.cells cur 272)).alloc (.map #[] 0)) 269 #[.slice (some ⟨w.heap.size, 0, none⟩) 0 c, .map (some (w.heap.size + 1))]
    simp only [World.size_alloc] at this
    exact this
  · have := mapN_new (w.alloc (.cells cur 272))
    simp only [World.size_alloc] at this
    exact mapN_keep this ((((Below.refl _ _).alloc (Nat.le_refl _) _).drew).block _ (by simp))
  · rintro b (rfl | rfl | h)
    · omega
    · omega
    · simp [Value.ownBlock] at h; omega
theorem new_other {w : World} {cur : Array Value} {c : Nat} (hcur : cur.size = c * 5) (hc : c ≤ 1000000) {g m p : Nat} (hm : m = w.heap.size) (hg : g = w.heap.size + 1) (hp : p = w.heap.size + 1 + 1) :
    ∃ v' m', PlAt p v' m' [] (((w.alloc (.map #[] 0)).alloc (.cells cur 272)).alloc (.cells #[.slice (some ⟨g, 0, none⟩) 0 c, .map (some m)] 269)).drew ∧
      Below w.heap.size w (((w.alloc (.map #[] 0)).alloc (.cells cur 272)).alloc (.cells #[.slice (some ⟨g, 0, none⟩) 0 c, .map (some m)] 269)).drew ∧ ∀ b, FtP p v' m' b → w.heap.size ≤ b := by
  subst hg hm hp
  have b1 := (Below.refl w.heap.size w).alloc (Nat.le_refl _) (.map #[] 0)
  have b2 := b1.alloc (by simp) (.cells cur 272)
  have b3 := b2.alloc (by simp; omega) (.cells #[.slice (some ⟨w.heap.size + 1, 0, none⟩) 0 c, .map (some w.heap.size)] 269)
  have hb := blk_new (w.alloc (.map #[] 0)) 272 cur
  simp only [World.size_alloc] at hb
  refine ⟨_, w.heap.size, ⟨?_, row_made (blk_on hb (((Below.refl _ _).alloc (Nat.le_refl _) _).drew)) hcur hc, ?_, okL_nil⟩, b3.drew, ?_⟩
  · have := blk_new ((w.alloc (.map #[] 0)).alloc (.cells cur 272)) 269 #[.slice (some ⟨w.heap.size + 1, 0, none⟩) 0 c, .map (some w.heap.size)]
    simp only [World.size_alloc] at this
    exact this
  · exact mapN_keep (mapN_new w) ((((Below.refl _ _).alloc (Nat.le_refl _) _).alloc (by simp) _).drew.block _ (by simp))
  · rintro b (rfl | rfl | h)
    · omega
    · omega
    · simp [Value.ownBlock] at h; omega

set_option maxHeartbeats 1000000 in
theorem noPlaces_calls (c : Nat) (hc : c ≤ 1000000) (w : World) :
    Calls Tryz.prog 139 #[.int .i64 (c : Int)] w fun e w' => ∃ p v m, e = .returned (.pointer (some ⟨p, 0, none⟩)) ∧ PlAt p v m [] w' ∧ Below w.heap.size w w' ∧ ∀ b, FtP p v m b → w.heap.size ≤ b := by
  obtain ⟨i0, hi, hz0, hz1, hz2⟩ := infoP
  go_enter Tryz.func139, Tryz.ntmps139
  go_wp2_with fail
  refine wp_region_held_drew (S := fun _ => True) (by kernel_rfl) trivial (fun hHeld => ?_)
  refine tkk 0 ?_
  refine tkk 2 ?_
  refine wpAnyH_ready (rs := [1, 3]) (by kernel_rfl) (by simp) ?_
  refine AllReadyH.cons rfl (fun K hK => ?_) (AllReadyH.cons rfl (fun K hK => ?_) AllReadyH.nil)
  · refine step_make rfl _ _ _ _ rfl i0 _ 5 56 c underP hi hz0 hz1 hz2 rfl rfl hc (by decide) ?_
    intro cur hcur
    refine hK.out _ _ trivial (fun _ => ?_)
    clear hK K
    simp only [Act.put, List.setIfInBounds_toArray, List.set_cons_zero, List.set_cons_succ, List.getElem_toArray, List.getElem_cons_succ, List.getElem_cons_zero]
    refine rdy 3 (fun K hK => ?_)
    refine step_mmap rfl _ rfl c rfl ?_
    refine hK.out _ _ trivial (fun _ => ?_)
    clear hK K
    simp only [Act.put, List.setIfInBounds_toArray, List.set_cons_zero, List.set_cons_succ, List.getElem_toArray, List.getElem_cons_succ, List.getElem_cons_zero]
    refine tkk 4 ?_
    refine rdy 5 (fun K hK => ?_)
    go_simp
    refine hK.out _ _ trivial (fun _ => ?_)
    clear hK K
    refine tkk 6 ?_
    refine wpAnyH_done (by kernel_rfl) ?_ _
    go_wp2
    go_ret
    obtain ⟨v', m', h1, h2, h3⟩ := new_one (w := w) hcur hc rfl rfl rfl
    exact ⟨_, _, _, rfl, h1, h2, h3⟩
  · refine step_mmap rfl _ rfl c rfl ?_
    refine hK.out _ _ trivial (fun _ => ?_)
    clear hK K
    simp only [Act.put, List.setIfInBounds_toArray, List.set_cons_zero, List.set_cons_succ, List.getElem_toArray, List.getElem_cons_succ, List.getElem_cons_zero]
    refine rdy 1 (fun K hK => ?_)
    refine step_make rfl _ _ _ _ rfl i0 _ 5 56 c underP hi hz0 hz1 hz2 rfl rfl hc (by decide) ?_
    intro cur hcur
    refine hK.out _ _ trivial (fun _ => ?_)
    clear hK K
    simp only [Act.put, List.setIfInBounds_toArray, List.set_cons_zero, List.set_cons_succ, List.getElem_toArray, List.getElem_cons_succ, List.getElem_cons_zero]
    refine tkk 4 ?_
    refine rdy 5 (fun K hK => ?_)
    go_simp
    refine hK.out _ _ trivial (fun _ => ?_)
    clear hK K
    refine tkk 6 ?_
    refine wpAnyH_done (by kernel_rfl) ?_ _
    go_wp2
    go_ret
    obtain ⟨v', m', h1, h2, h3⟩ := new_other (w := w) hcur hc rfl rfl rfl
    exact ⟨_, _, _, rfl, h1, h2, h3⟩

/-- a dict at d, of at most n places, in the blocks of S: it has l -/
def DcS (S : Nat → Prop) (d n : Nat) (l : List Ent) (w : World) : Prop :=
  ∃ p v m L, Blk d 244 #[.pointer (some ⟨p, 0, none⟩)] w ∧ PlAt p v m L w ∧ live L = l ∧ L.length ≤ n ∧ S d ∧ ∀ b, FtP p v m b → S b
theorem DcS.mono {S T : Nat → Prop} {d n k : Nat} {l : List Ent} {w : World} (h : DcS S d n l w) (hS : ∀ b, b < w.heap.size → S b → T b) (hn : n ≤ k) : DcS T d k l w := by
  obtain ⟨p, v, m, L, h1, h2, h3, h4, h5, h6⟩ := h
  exact ⟨p, v, m, L, h1, h2, h3, Nat.le_trans h4 hn, hS d (blk_lt h1) h5, fun b hb => hS b (h2.lt hb) (h6 b hb)⟩
theorem DcS.keep {S T : Nat → Prop} {d n : Nat} {l : List Ent} {a c : World} (h : DcS S d n l a) (k : Keep T a c) (hT : ∀ b, b < a.heap.size → S b → ¬ T b) : DcS S d n l c := by
  obtain ⟨p, v, m, L, h1, h2, h3, h4, h5, h6⟩ := h
  exact ⟨p, v, m, L, blk_keep h1 k (hT d (blk_lt h1) h5), h2.keep (fun b hb => k.block b (h2.lt hb) (hT b (h2.lt hb) (h6 b hb))), h3, h4, h5, h6⟩
theorem DcS.on {S : Nat → Prop} {d n : Nat} {l : List Ent} {a c : World} (h : DcS S d n l a) (k : Below a.heap.size a c) : DcS S d n l c :=
  h.keep (T := fun _ => False) (Keep.of k) (fun _ _ _ h => h)
theorem DcS.lt {S : Nat → Prop} {d n : Nat} {l : List Ent} {w : World} (h : DcS S d n l w) : d < w.heap.size := by
  obtain ⟨p, v, m, L, h1, _⟩ := h
  exact blk_lt h1
theorem DcS.once {S : Nat → Prop} {d n : Nat} {l : List Ent} {w : World} (h : DcS S d n l w) : OkL l ∧ l.length ≤ n := by
  obtain ⟨p, v, m, L, h1, h2, rfl, h4, _⟩ := h
  exact ⟨h2.once, Nat.le_trans (live_len L) h4⟩

theorem new_calls (w : World) :
    Calls Tryz.prog 106 #[] w fun e w' => ∃ d, e = .returned (.pointer (some ⟨d, 0, none⟩)) ∧ DcS (fun b => w.heap.size ≤ b) d 0 [] w' ∧ Below w.heap.size w w' := by
  go_enter Tryz.func106, Tryz.ntmps106
  go_wp2_with fail
  refine (noPlaces_calls 0 (by omega) _).mono ?_
  rintro e1 w1 ⟨p, v, m, rfl, h1, h2, h3⟩
  have H1 := hid h1
  have H2 := hid h2
  clear h1 h2
  go_wp2_with fail
  go_ret
  have hs := H2.out.size
  have k := (Below.refl w1.heap.size w1).alloc (Nat.le_refl _) (.cells #[.pointer (some ⟨p, 0, none⟩)] 244)
  exact ⟨_, rfl, ⟨p, v, m, [], blk_new _ _ _, H1.out.on k, rfl, Nat.le_refl _, hs, h3⟩, H2.out.trans (k.mono hs)⟩
theorem made_calls {S : Nat → Prop} {d n : Nat} {l : List Ent} (w : World) (h : DcS S d n l w) :
    Calls Tryz.prog 152 #[.pointer (some ⟨d, 0, none⟩)] w fun e w' => e = .returned (.bool true) ∧ w' = w := by
  obtain ⟨p, v, m, L, h1, _⟩ := h
  have c0 : w.cell? ⟨d, 0, none⟩ = some (.pointer (some ⟨p, 0, none⟩)) := by rw [blk_cell h1]; rfl
  clear h1
  go_enter Tryz.func152, Tryz.ntmps152
  go_wp2_with fail
  go_ret
  exact ⟨rfl, rfl⟩
theorem made_nil (w : World) :
    Calls Tryz.prog 152 #[.pointer none] w fun e w' => e = .returned (.bool false) ∧ w' = w := by
  go_enter Tryz.func152, Tryz.ntmps152
  go_wp2_with fail
  go_ret
  exact ⟨rfl, rfl⟩
theorem made_zero {d : Nat} (w : World) (h : w.cell? ⟨d, 0, none⟩ = some (.pointer none)) :
    Calls Tryz.prog 152 #[.pointer (some ⟨d, 0, none⟩)] w fun e w' => e = .returned (.bool false) ∧ w' = w := by
  go_enter Tryz.func152, Tryz.ntmps152
  go_wp2_with fail
  go_ret
  exact ⟨rfl, rfl⟩

end Go.Proofs.YtimhgbcanmgajaaGreat
