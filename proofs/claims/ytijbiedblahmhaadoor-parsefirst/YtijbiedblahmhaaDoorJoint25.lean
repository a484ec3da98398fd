/- Bytes of the call's own that grow. Slices of tokens of the call's own. The tokens of a text, as the parser has them. How high a tree is. All tokens of a text, as the program reads them. -/
import Derived.Test.YtijbiedblahmhaaDoorJoint1
import Derived.Test.YtijbiedblahmhaaDoorJoint20
import Derived.Laws.BytesArg
import Derived.Deep.RegionLaw
import Derived.Test.YtijbiedblahmhaaDoorLexNext
import Derived.Test.YtijbiedblahmhaaDoorPsCutLex
import Derived.Test.YtijbiedblahmhaaDoorJoint4
import Derived.Test.YtijbiedblahmhaaDoorJoint3
import Derived.Test.YtijbiedblahmhaaDoorJoint19
namespace Go.Proofs.YtijbiedblahmhaaDoor
open Go.RowKit

/-- a slice of bytes of the call's own: it holds l -/
def Owns (B : Nat) (v : Value) (l : List UInt8) (w : World) : Prop := w.ownsRow B 5 1 v l.length (Lib.byteCells l)

/-- append of bytes that were written out, onto a slice of the call's own -/
theorem wp_app {ops : Array Oper} {rest : List Oper} {o : Oper} {a : Act} {Q : Exit → Act → World → Prop} {w : World} (hgd : o.guard = none) (s x : Operand)
    (ho : o.op = .call { callee := .builtin .append, args := #[s, x], argTypes := #[65, 65] })
    (B : Nat) (l news : List UInt8) (cs : Array Value) (n : Nat) (hn : news.length = n) (hcs : cs = (Lib.byteCells news).toArray) (v : Value) (hs : a.eval s = v) (hown : Owns B v l w)
    (hx : a.eval x = .slice (some ⟨w.heap.size, 0, none⟩) n n) (hlen : l.length + n ≤ 140737488355328) (hB : B ≤ w.heap.size) (h0 : 0 < n)
    (h : ∀ g cap w', Owns B (.slice (some ⟨g, 0, none⟩) (l.length + n) cap) (l ++ news) w' → Below B w w' → wpList Tryd.prog ops Q rest (a.put o.dst (.slice (some ⟨g, 0, none⟩) (l.length + n) cap)) w') :
    wpList Tryd.prog ops Q (o :: rest) a (w.alloc (.cells cs 5)) := by
  obtain ⟨i0, hi, hz0, hz1, hz2⟩ := info8
  refine wpList_append_own _ hgd s x 65 ho B 5 i0 (.int .u8 0) 1 1 under_bytes hi hz0 hz1 hz2 rfl (by decide) v _ _ hs (World.ownsRow.alloc hown _) ⟨w.heap.size, 0, none⟩ n n (Lib.byteCells news) hx (by rw [Lib.byteCells_length]; omega) ?_ ?_ (by unfold maxLen; omega) (by omega) (by simp; omega) ?_
  · intro j u hj
    have e : (⟨w.heap.size, 0, none⟩ : Addr).add j = ⟨w.heap.size, j, none⟩ := by unfold Addr.add; split <;> simp_all
    rw [e, World.cell?_alloc_new, hcs]
    simpa using hj
  · intro u hu
    simp [Lib.byteCells] at hu
    obtain ⟨b, _, rfl⟩ := hu
    rfl
  · intro v' w2 hown' hgrow _
    obtain ⟨g, cap, rfl⟩ : ∃ g cap, v' = .slice (some ⟨g, 0, none⟩) (l.length + n) cap := by
      rcases hown'.2 with ⟨_, h0⟩ | ⟨g, cap, cur, hv, _⟩
      · omega
      · exact ⟨g, cap, hv⟩
    refine h g cap w2 ?_ ?_
    · unfold Owns
      rw [Lib.byteCells_append, List.length_append, hn]
      exact hown'
    · exact ((Below.refl B w).alloc hB _).grown hgrow (by simp; omega) (fun k hk => (hown.lt k hk).1)

/-- the same, as one step of a region that draws its order -/
theorem step_app {ops : Array Oper} {o : Oper} {a : Act} {w : World} {K : Act → World → Prop} {Q : Exit → Act → World → Prop} {E : Prop} (hgd : o.guard = none) (s x : Operand)
    (ho : o.op = .call { callee := .builtin .append, args := #[s, x], argTypes := #[65, 65] })
    (B : Nat) (l news : List UInt8) (cs : Array Value) (n : Nat) (hn : news.length = n) (hcs : cs = (Lib.byteCells news).toArray) (v : Value) (hs : a.eval s = v) (hown : Owns B v l w)
    (hx : a.eval x = .slice (some ⟨w.heap.size, 0, none⟩) n n) (hlen : l.length + n ≤ 140737488355328) (hB : B ≤ w.heap.size) (h0 : 0 < n)
    (h : ∀ g cap w', Owns B (.slice (some ⟨g, 0, none⟩) (l.length + n) cap) (l ++ news) w' → Below B w w' → K (a.put o.dst (.slice (some ⟨g, 0, none⟩) (l.length + n) cap)) w') :
    if Region.wanted o (yielded ops a.tmps) = true then Oper.wp Tryd.prog o a (w.alloc (.cells cs 5)).drew K Q else E := by
  have hw : Region.wanted o (yielded ops a.tmps) = true := by simp [Region.wanted, hgd]
  rw [if_pos hw]
  obtain ⟨i0, hi, hz0, hz1, hz2⟩ := info8
  have hown1 : (w.alloc (.cells cs 5)).drew.ownsRow B 5 1 v l.length (Lib.byteCells l) := World.ownsRow.alloc hown _
  refine wp_append_own _ s x 65 ho B 5 i0 (.int .u8 0) 1 1 under_bytes hi hz0 hz1 hz2 rfl (by decide) v _ _ hs hown1 ⟨w.heap.size, 0, none⟩ n n (Lib.byteCells news) hx (by rw [Lib.byteCells_length]; omega) ?_ ?_ (by unfold maxLen; omega) (by omega) (by show B ≤ (w.alloc (.cells cs 5)).heap.size; simp; omega) ?_
  · intro j u hj
    have e : (⟨w.heap.size, 0, none⟩ : Addr).add j = ⟨w.heap.size, j, none⟩ := by unfold Addr.add; split <;> simp_all
    show (w.alloc (.cells cs 5)).cell? _ = _
    rw [e, World.cell?_alloc_new, hcs]
    simpa using hj
  · intro u hu
    simp [Lib.byteCells] at hu
    obtain ⟨b, _, rfl⟩ := hu
    rfl
  · intro v' w2 hown' hgrow _
    obtain ⟨g, cap, rfl⟩ : ∃ g cap, v' = .slice (some ⟨g, 0, none⟩) (l.length + n) cap := by
      rcases hown'.2 with ⟨_, h0⟩ | ⟨g, cap, cur, hv, _⟩
      · omega
      · exact ⟨g, cap, hv⟩
    refine h g cap w2 ?_ ?_
    · unfold Owns
      rw [Lib.byteCells_append, List.length_append, hn]
      exact hown'
    · exact (((Below.refl B w).alloc hB _).drew).grown hgrow (by show B ≤ (w.alloc (.cells cs 5)).heap.size; simp; omega) (fun k hk => (hown.lt k hk).1)

theorem owns_string {B g cap n : Nat} {l : List UInt8} {w : World} (h : Owns B (.slice (some ⟨g, 0, none⟩) n cap) l w) (hn : n = l.length) :
    (convert 65 9 (.slice (some ⟨g, 0, none⟩) n cap)).run Tryd.prog w = .ok (.string ⟨l.toArray⟩) w := by
  subst hn
  refine run_convert_bytes_back w 65 9 5 ⟨g, 0, none⟩ cap l (by kernel_rfl) (by kernel_rfl) (by kernel_rfl) (fun j hj => ?_)
  exact World.ownsRow.cells h (g := g) rfl j (.int .u8 l[j].toNat) (by simp [Lib.byteCells, hj])

theorem owns_first (w : World) (c : UInt8) (n : Int) (hn : n = (c.toNat : Int)) : Owns w.heap.size (.slice (some ⟨w.heap.size, 0, none⟩) 1 1) [c] (w.alloc (.cells #[.int .u8 n] 5)) := by
  subst hn
  exact ⟨rfl, .inr ⟨w.heap.size, 1, #[.int .u8 c.toNat], rfl, Nat.le_refl _, heap_alloc_new w _, Nat.le_refl _, by unfold maxLen; decide, rfl, rfl⟩⟩

end Go.Proofs.YtijbiedblahmhaaDoor

namespace Go.Proofs.YtijbiedblahmhaaDoor
open Go.RowKit

def tokCells (l : List Tok) : List Value := l.flatMap Tok.cells
theorem tokCells_length (l : List Tok) : (tokCells l).length = l.length * 4 := by
  induction l with
  | nil => rfl
  | cons t l ih => simp [tokCells, Tok.cells] at ih ⊢; omega
theorem tokCells_append (l m : List Tok) : tokCells (l ++ m) = tokCells l ++ tokCells m := by simp [tokCells]
theorem tokCells_one (l : List Tok) : ∀ u ∈ tokCells l, u.oneCell' = true := by
  intro u hu
  simp only [tokCells, List.mem_flatMap, Tok.cells] at hu
  obtain ⟨t, _, hu⟩ := hu
  simp at hu
  rcases hu with rfl | rfl | rfl | rfl <;> rfl

/-- a slice of tokens (of type T) of the call's own: it holds l -/
def Row (T : TypeId) (B : Nat) (v : Value) (l : List Tok) (w : World) : Prop := w.ownsRow B T 4 v l.length (tokCells l)
theorem row_nil (T : TypeId) (B : Nat) (w : World) : Row T B (.slice none 0 0) [] w := ⟨rfl, .inl ⟨rfl, rfl⟩⟩
theorem row_shape {T : TypeId} {B : Nat} {v : Value} {l : List Tok} {w : World} (h : Row T B v l w) : ∃ ao cap, v = .slice ao l.length cap := by
  rcases h.2 with ⟨h1, h2⟩ | ⟨g, cap, cur, h1, _⟩
  · exact ⟨none, 0, by rw [h1, h2]⟩
  · exact ⟨_, _, h1⟩
theorem row_on {T : TypeId} {B : Nat} {v : Value} {l : List Tok} {a b : World} (h : Row T B v l a) (k : Below a.heap.size a b) : Row T B v l b := by
  refine ⟨h.1, ?_⟩
  rcases h.2 with h1 | ⟨g, cap, cur, h1, h2, h3, h4⟩
  · exact .inl h1
  · refine .inr ⟨g, cap, cur, h1, h2, ?_, h4⟩
    rw [k.block g (by
      rcases Nat.lt_or_ge g a.heap.size with h | h
      · exact h
      · rw [Array.getElem?_eq_none h] at h3; cases h3)]
    exact h3

theorem infoT : ∃ i0, Tryd.prog.info? 41 = some i0 ∧ i0.zero = some (.agg #[.int .i64 0, .string ⟨#[]⟩, .int .i64 0, .int .i64 0]) ∧ i0.size = 4 ∧ i0.bytes = 40 :=
  info_parts (show (Tryd.prog.info? 41).map (fun i => (i.zero, i.size, i.bytes)) = some (some (.agg #[.int .i64 0, .string ⟨#[]⟩, .int .i64 0, .int .i64 0]), 4, 40) by kernel_rfl)
theorem underT : Tryd.prog.underlying 35 = some (.slice 41) := by kernel_rfl
/-- append of one token that was written out, onto a slice of the call's own -/
theorem wp_tapp {ops : Array Oper} {rest : List Oper} {o : Oper} {a : Act} {Q : Exit → Act → World → Prop} {w : World} (hgd : o.guard = none) (s x : Operand)
    (ho : o.op = .call { callee := .builtin .append, args := #[s, x], argTypes := #[35, 35] })
    (B : Nat) (l : List Tok) (t : Tok) (cs : Array Value) (hcs : cs = t.cells.toArray) (v : Value) (hs : a.eval s = v) (hown : Row 41 B v l w)
    (nb : Nat) (hx : a.eval x = .slice (some ⟨nb, 0, none⟩) 1 1) (hnb : nb = w.heap.size) (hlen : l.length ≤ 1000000) (hB : B ≤ w.heap.size)
    (h : ∀ v' w', Row 41 B v' (l ++ [t]) w' → Below B w w' → wpList Tryd.prog ops Q rest (a.put o.dst v') w') :
    wpList Tryd.prog ops Q (o :: rest) a (w.alloc (.cells cs 41)) := by
  subst hnb
  obtain ⟨i0, hi, hz0, hz1, hz2⟩ := infoT
  refine wpList_append_own _ hgd s x 35 ho B 41 i0 _ 4 40 underT hi hz0 hz1 hz2 rfl (by decide) v _ _ hs (World.ownsRow.alloc hown _) ⟨w.heap.size, 0, none⟩ 1 1 t.cells hx rfl ?_ ?_ (by unfold maxLen; omega) (by omega) (by simp; omega) ?_
  · intro j u hj
    have e : (⟨w.heap.size, 0, none⟩ : Addr).add j = ⟨w.heap.size, j, none⟩ := by unfold Addr.add; split <;> simp_all
    rw [e, World.cell?_alloc_new, hcs]
    simpa using hj
  · intro u hu
    exact tokCells_one [t] u (by simpa [tokCells] using hu)
  · intro v' w2 hown' hgrow _
    refine h v' w2 ?_ ?_
    · unfold Row
      rw [tokCells_append, List.length_append]
      simpa [tokCells] using hown'
    · exact ((Below.refl B w).alloc hB _).grown hgrow (by simp; omega) (fun k hk => (hown.lt k hk).1)

/-! how far a token goes -/
theorem runL_pos {p : Nat → Bool} {b : UInt8} {r : List UInt8} (h : p b.toNat = true) : 1 ≤ runL p (b :: r) := by simp [runL, h]
theorem firstOf_pref : ∀ (L : List (List UInt8)) (l : List UInt8), firstOf L l = [] ∨ (firstOf L l).isPrefixOf l = true
  | [], _ => .inl rfl
  | x :: L, l => by
    unfold firstOf
    split
    · right; assumption
    · exact firstOf_pref L l
theorem one_on {l : List UInt8} {k : Nat} (h : (oneOut l k).2.2 = 0) : k < (oneOut l k).2.1 ∧ (oneOut l k).2.1 ≤ k + l.length := by
  match l with
  | [] => simp [oneOut] at h
  | b :: r =>
    unfold oneOut at h ⊢
    simp only at h ⊢
    by_cases hl : letterN b.toNat = true
    · rw [if_pos hl] at h ⊢
      unfold wordOut at h ⊢
      have h1 : 1 ≤ runL wordN (b :: r) := runL_pos (by simp [wordN, hl])
      have h2 := runL_le wordN (b :: r)
      split at h
      · rename_i h3; rw [if_pos h3]; exact ⟨by simp only; omega, by simp only; omega⟩
      · rename_i h3
        rw [if_neg h3]
        split at h
        · rename_i h4; rw [if_pos h4]; exact ⟨by simp only; omega, by simp only; omega⟩
        · simp at h
    · rw [if_neg hl] at h ⊢
      by_cases hd : digitN b.toNat = true
      · rw [if_pos hd] at h ⊢
        unfold numbOut at h ⊢
        have h1 : 1 ≤ runL digitN (b :: r) := runL_pos hd
        have h2 := runL_le digitN (b :: r)
        split at h
        · rename_i h3; rw [if_pos h3]; exact ⟨by simp only; omega, by simp only; omega⟩
        · rename_i h3; exact absurd h h3
      · rw [if_neg hd] at h ⊢
        by_cases h34 : b.toNat = 34
        · rw [if_pos h34] at h ⊢
          unfold quoOut at h ⊢
          split at h
          · rename_i h3
            rw [if_pos h3]
            split at h
            · simp at h
            · rename_i h4
              rw [if_neg h4]
              have hg : takeOut (b :: r) = ((takeOut (b :: r)).1, (takeOut (b :: r)).2.1, 0) := by rw [← h3]
              have := takeOut_good hg
              exact ⟨by simp only; omega, by simp only; omega⟩
          · rename_i h3; exact absurd h h3
        · rw [if_neg h34] at h ⊢
          unfold sgnOut at h ⊢
          split at h
          · simp at h
          · rename_i h3
            rw [if_neg h3]
            have h4 : 0 < (signL (b :: r)).length := List.length_pos_iff.2 h3
            have h5 : (signL (b :: r)).length ≤ (b :: r).length := by
              rcases firstOf_pref sgnL (b :: r) with h6 | h6
              · exact absurd h6 h3
              · exact (List.isPrefixOf_iff_prefix.1 h6).length_le
            exact ⟨by simp only; omega, by simp only; omega⟩
theorem one_to {s : ByteArray} {k : Nat} (hk : k ≤ s.size) (h : (oneOut (s.data.toList.drop k) k).2.2 = 0) : k < (oneOut (s.data.toList.drop k) k).2.1 ∧ (oneOut (s.data.toList.drop k) k).2.1 ≤ s.size := by
  have := one_on h
  rw [List.length_drop, list_size] at this
  omega

end Go.Proofs.YtijbiedblahmhaaDoor

namespace Go.Proofs.YtijbiedblahmhaaDoor
open Go.RowKit

theorem go_last (s : ByteArray) : ∀ (f k : Nat) (acc out : List Tok) (p : Nat), tokGo s f k acc = (out, p, 0) → (∀ t ∈ acc, t.kind ≠ 6) → acc.length ≤ 600 →
    out = [] ∨ ∃ fr e, out = fr ++ [e] ∧ e.kind = 6 ∧ (∀ t ∈ fr, t.kind ≠ 6) ∧ fr.length ≤ 600
  | 0, k, acc, out, p, h, _, _ => by
    rw [tokGo] at h
    injection h with h1 _
    exact .inl h1.symm
  | f + 1, k, acc, out, p, h, ha, hl => by
    rw [tokGo] at h
    split at h
    · injection h with h1 _
      exact .inr ⟨acc, _, h1.symm, rfl, ha, hl⟩
    · split at h
      · injection h with h1 _
        exact .inl h1.symm
      · split at h
        · injection h with h1 _
          exact .inl h1.symm
        · rename_i h2 h3
          have h4 := one_right (l := s.data.toList.drop k) (k := k) (by simpa using h2)
          refine go_last s f _ _ out p h (fun t ht => ?_) (by simp; omega)
          rcases List.mem_append.1 ht with h5 | h5
          · exact ha t h5
          · rw [List.mem_singleton.1 h5]; exact h4.2.1
theorem out_tokok {s : ByteArray} (h : (tokOut s).2.2 = 0) : TokOk (tokOut s).1 := by
  have he : tokOut s = ((tokOut s).1, (tokOut s).2.1, 0) := by rw [← h]
  obtain ⟨⟨t, ht, _⟩, _⟩ := out_end he
  have hg : (tokOut s).1 = [] ∨ ∃ fr e, (tokOut s).1 = fr ++ [e] ∧ e.kind = 6 ∧ (∀ t ∈ fr, t.kind ≠ 6) ∧ fr.length ≤ 600 := by
    generalize hL : (tokOut s).1 = L at *
    generalize hp : (tokOut s).2.1 = p at *
    unfold tokOut at he
    split at he
    · injection he with h1 _
      exact .inl h1.symm
    · exact go_last s _ _ _ _ _ he (by simp) (by simp)
  rcases hg with h0 | ⟨fr, e, h1, h2, h3, h4⟩
  · rw [h0] at ht; cases ht
  · exact ⟨out_right s, by rw [h1]; simp; omega, fr, e, h1, h2, h3⟩
theorem tokOk_ne {L : List Tok} (h : TokOk L) : L ≠ [] := by
  obtain ⟨f, e, rfl, _⟩ := h.last
  simp
theorem tokCells_get : ∀ (L : List Tok) (i : Nat) (h : i < L.length), (tokCells L)[i * 4]? = some (.int .i64 L[i].kind) ∧ (tokCells L)[i * 4 + 1]? = some (.string L[i].text) ∧ (tokCells L)[i * 4 + 2]? = some (.int .i64 L[i].num) ∧ (tokCells L)[i * 4 + 3]? = some (.int .i64 L[i].pl)
  | t :: L, 0, _ => by simp [tokCells, Tok.cells]
  | t :: L, i + 1, h => by
    have ih := tokCells_get L i (by simpa using h)
    have e : ∀ j, (tokCells (t :: L))[(i + 1) * 4 + j]? = (tokCells L)[i * 4 + j]? := by
      intro j
      rw [show tokCells (t :: L) = t.cells ++ tokCells L from rfl, List.getElem?_append_right (by simp [Tok.cells]; omega)]
      simp only [Tok.cells, List.length_cons, List.length_nil]
      congr 1
      omega
    have e0 := e 0
    rw [Nat.add_zero, Nat.add_zero] at e0
    rw [e0, e 1, e 2, e 3]
    simpa using ih
/-- a row of tokens, cell by cell -/
theorem row_tokAt {T : TypeId} {B : Nat} {v : Value} {L : List Tok} {w : World} (h : Row T B v L w) (hne : L ≠ []) : ∃ R cap, v = .slice (some ⟨R, 0, none⟩) L.length cap ∧ L.length ≤ cap ∧ B ≤ R ∧ R < w.heap.size ∧ TokAt R L w := by
  rcases h.2 with ⟨_, h2⟩ | ⟨g, cap, cur, h1, h2, h3, h4, h5, h6, h7⟩
  · exact absurd (List.length_eq_zero_iff.1 h2) hne
  · have hb : Blk g T cur w := h3
    refine ⟨g, cap, h1, h4, h2, blk_lt hb, fun i hi => ?_⟩
    have hc : ∀ j, j < 4 → w.cell? ⟨g, i * 4 + j, none⟩ = (tokCells L)[i * 4 + j]? := by
      intro j hj
      rw [blk_cell hb, ← h7, List.getElem?_take, if_pos (by omega), Array.getElem?_toList]
    have e0 := hc 0 (by omega)
    have e1 := hc 1 (by omega)
    have e2 := hc 2 (by omega)
    have e3 := hc 3 (by omega)
    rw [Nat.add_zero] at e0
    obtain ⟨f0, f1, f2, f3⟩ := tokCells_get L i hi
    exact ⟨e0.trans f0, e1.trans f1, e2.trans f2, e3.trans f3⟩

end Go.Proofs.YtijbiedblahmhaaDoor

namespace Go.Proofs.YtijbiedblahmhaaDoor
open Go.RowKit

theorem take_one {α : Type} (l : List α) (i : Nat) (h : i < l.length) : l.take (i + 1) = l.take i ++ [l[i]] := by
  rw [List.take_succ_eq_append_getElem h]

set_option maxHeartbeats 1600000 in
theorem height_calls (t : Nd) : ∀ (B : Nat) (w : World) (nv kv : Value), B ≤ w.heap.size → Hid (NdIn B w t nv kv) → countN t ≤ 1000000 →
    Calls Tryd.prog 13 #[.agg #[.int .i64 t.kind, .int .i64 t.op, .int .i64 t.num, .string t.str, nv, kv, .int .i64 t.pl]] w fun e w' =>
      e = .returned (.int .i64 (highN t)) ∧ Below w.heap.size w w' := by
  refine Nd.ind (P := fun t => ∀ (B : Nat) (w : World) (nv kv : Value), B ≤ w.heap.size → Hid (NdIn B w t nv kv) → countN t ≤ 1000000 →
    Calls Tryd.prog 13 #[.agg #[.int .i64 t.kind, .int .i64 t.op, .int .i64 t.num, .string t.str, nv, kv, .int .i64 t.pl]] w fun e w' =>
      e = .returned (.int .i64 (highN t)) ∧ Below w.heap.size w w') ?_ t
  clear t
  intro k o n s ns ks p ih B w nv kv hB hN hc
  obtain ⟨hs, hk⟩ := ndIn_mk.1 hN.out
  obtain ⟨ao, cap, rfl, hks⟩ := kidsIn_cases hk
  clear hk hN hs
  have hlen := length_count ks
  have hhc := highL_count ks
  simp only [countN] at hc
  simp only [Nd.kind, Nd.op, Nd.num, Nd.str, Nd.pl]
  have IH := hid ih
  have KS := hid hks
  have HC := hid (show highN (.mk k o n s ns ks p) = highL ks + 1 by simp [highN])
  clear ih hks
  go_enter Tryd.func13, Tryd.ntmps13
  go_wp2_with fail
  go_loopw [3, 9] (fun a i wr => ∃ j : Nat, j ≤ ks.length ∧ i = .int .i64 j ∧ a = .int .i64 (highL (ks.take j)) ∧ Below w.heap.size w wr) (fun _ i _ => ks.length - (intOf i).toNat)
  case atStart => exact ⟨0, Nat.zero_le _, rfl, rfl, (Below.refl _ _).alloc (Nat.le_refl _) _⟩
  case round =>
    obtain ⟨j, hj, rfl, rfl, hb⟩ := hrel
    have hct := highL_take ks j
    by_cases hjl : j < ks.length
    · obtain ⟨b, off, rfl, hbB, hat⟩ := KS.out.resolve_left (fun h => by rw [h] at hjl; cases hjl)
      obtain ⟨nv', kv', hnode, hin⟩ := ndsAt_get hat j hjl
      have hb' := hb.mono hB
      obtain ⟨c0, c1, c2, c3, c4, c5, c6⟩ := nodeAt_on hnode hbB hb'
      have hin' := ndIn_on hb' _ _ _ hin
      have ih := IH.out ks[j] (List.getElem_mem hjl)
      have hcm := count_mem (List.getElem_mem hjl)
      have HT := hid (show highL (ks.take (j + 1)) = max (highL (ks.take j)) (highN ks[j]) by rw [take_one ks j hjl, highL_snoc])
      have hct1 := highL_take ks (j + 1)
      rw [HT.out] at hct1
      generalize ks[j] = x at *
      have N := hid hin'
      have BB := hid hb
      have hsz := hb.size
      obtain ⟨a1, q1, a2, q2, rfl, rfl⟩ := ndIn_shape hin
      have IH' := hid ih
      clear hin hin' hnode hat hb hb' ih KS IH
      go_wp2_with fail
      refine (IH'.out B _ _ _ (by simp; omega) (hid (ndIn_on ((Below.refl B wr).alloc (by omega) _) _ _ _ N.out)) (by omega)).mono ?_
      rintro e w1 ⟨rfl, b1⟩
      have B1 := hid ((BB.out.alloc hsz _).trans (b1.mono (by simp; omega)))
      clear b1 BB N
      go_wp2_with fail
      go_roundw
      case rel => exact ⟨j + 1, by omega, by go_num, by rw [HT.out]; go_num, B1.out⟩
      case measure => simp [intOf]; omega
    · have e : ks.take j = ks := List.take_of_length_le (by omega)
      have BB := hid hb
      clear hb
      go_wp2_with fail
      go_ret
      exact ⟨by rw [HC.out, e]; rfl, BB.out⟩

end Go.Proofs.YtijbiedblahmhaaDoor

namespace Go.Proofs.YtijbiedblahmhaaDoor
open Go.RowKit

def tokEnding (v : Value) (o : List Tok × Nat × Int) : Ending := .returned (.tuple #[v, .int .i64 o.2.1, .int .i64 o.2.2])

set_option maxHeartbeats 1600000 in
set_option maxRecDepth 100000 in
theorem tokens_calls (s : ByteArray) (hs : s.size ≤ 1000000) (w : World) (h0 : 0 < w.heap.size) (SG : Hid (Texts 0 sgnL w)) :
    Calls Tryd.prog 9 #[.string s] w fun e w' => ∃ v, e = tokEnding v (tokOut s) ∧ Row 41 w.heap.size v (tokOut s).1 w' ∧ Below w.heap.size w w' := by
  by_cases hlong : 2000 < s.size
  · have H := hid (show tokOut s = ([], 0, 3) by unfold tokOut; rw [if_pos hlong])
    clear SG
    go_enter Tryd.func9, Tryd.ntmps9
    go_wp2
    go_ret3
    exact ⟨.slice none 0 0, by rw [H.out]; rfl, by rw [H.out]; exact row_nil _ _ _, Below.refl _ _⟩
  have hgo : tokOut s = tokGo s (s.size + 1) (skipTo false s 0) [] := by unfold tokOut; rw [if_neg hlong]
  generalize tokOut s = out at *
  have hk0 := skipTo_le (f := false) (s := s) (k := 0) (Nat.zero_le _)
  generalize hk : skipTo false s 0 = k0 at *
  have Hk := hid hk
  have HG := hid hgo
  clear hk hgo
  go_enter Tryd.func9, Tryd.ntmps9
  go_wp2_with fail
  refine (skip_calls s hs 0 (Nat.zero_le _) _).mono ?_
  rintro e w1 ⟨rfl, rfl⟩
  rw [Hk.out]
  clear Hk
  go_wp2
  go_loopw [5, 6] (fun l i wr => ∃ (j f : Nat) (acc : List Tok), j ≤ s.size ∧ i = .int .i64 j ∧ acc.length ≤ 600 ∧ s.size < j + f ∧ out = tokGo s f j acc ∧ Row 41 w.heap.size l acc wr ∧ Below w.heap.size w wr) (fun _ i _ => s.size - (intOf i).toNat)
  case atStart => exact ⟨k0, s.size + 1, [], hk0, rfl, by decide, by omega, HG.out, row_nil _ _ _, Below.refl _ _⟩
  case round =>
    clear HG
    obtain ⟨j, f, acc, hj, rfl, hacc, hf, hout, hrow, hbel⟩ := hrel
    obtain ⟨f, rfl⟩ : ∃ f', f = f' + 1 := ⟨f - 1, by omega⟩
    obtain ⟨ao, cap, rfl⟩ := row_shape hrow
    have R := hid hrow
    have B := hid hbel
    have hsz : w.heap.size ≤ wr.heap.size := hbel.size
    clear hrow hbel
    by_cases hjl : j < s.size
    · have SG1 := hid (texts_on SG.out h0 (B.out))
      have h1 : 0 < wr.heap.size := by omega
      have hto := fun h => one_to (s := s) (k := j) hj h
      have hbad := fun he => hout.trans (tokGo_bad (acc := acc) (f := f) hjl rfl he)
      have hfull := fun he hf => hout.trans (tokGo_full (acc := acc) (f := f) hjl rfl he hf)
      have hmore := fun he hf => hout.trans (tokGo_more (acc := acc) (f := f) hjl rfl he hf)
      generalize ho : oneOut (s.data.toList.drop j) j = o at *
      obtain ⟨⟨t0, t1, t2, t3⟩, n, er⟩ := o
      have Ho := hid ho
      clear ho hout
      simp only at hto hbad hfull hmore
      rcases (show er = 0 ∨ er ≠ 0 from by omega) with rfl | hne
      · have hto1 := hto rfl
        by_cases h600 : acc.length = 600
        · have H := hid (hfull rfl h600)
          have e6 : ((acc.length : Int) == 600) = true := beq_iff_eq.2 (by omega)
          clear hbad hfull hmore hto
          go_wp2_with fail
          refine (next_calls s hs j hjl _ h1 SG1).mono ?_
          rintro e w1 ⟨rfl, b1⟩
          rw [Ho.out]
          have B1 := hid (below_in B.out (Nat.le_refl _) b1)
          clear b1 SG1 R B
          unfold TokOut.ending Tok.val
          go_wp2
          go_ret3
          exact ⟨.slice none 0 0, by rw [H.out]; rfl, by rw [H.out]; exact row_nil _ _ _, B1.out.alloc B1.out.size _⟩
        · have H := hid (hmore rfl h600)
          have e6 : ((acc.length : Int) == 600) = false := beq_eq_false_iff_ne.2 (by omega)
          have hq1 := skipTo_ge false s n
          have hq2 := skipTo_le (f := false) hto1.2
          clear hbad hfull hmore hto
          go_wp2_with fail
          refine (next_calls s hs j hjl _ h1 SG1).mono ?_
          rintro e w1 ⟨rfl, b1⟩
          rw [Ho.out]
          have b2 := (Below.refl w1.heap.size w1).alloc (Nat.le_refl _) (.cells #[.int .i64 t0, .string t1, .int .i64 t2, .int .i64 t3] 41)
          have B1 := hid (below_in (below_in B.out (Nat.le_refl _) b1) (Nat.le_refl _) b2)
          have R1 := hid (row_on (row_on R.out b1) b2)
          have hsz1 : w.heap.size ≤ (w1.alloc (.cells #[.int .i64 t0, .string t1, .int .i64 t2, .int .i64 t3] 41)).heap.size := B1.out.size
          clear b1 b2 SG1 R B
          unfold TokOut.ending Tok.val
          go_wp2_with (at_builtin; refine wp_tapp rfl _ _ rfl w.heap.size acc ⟨t0, t1, t2, t3⟩ _ rfl _ (by rfl) R1.out _ (by rfl) (by simp) (by omega) hsz1 ?_)
          intro v' w2 R2 b2
          have R3 := hid R2
          have B3 := hid (B1.out.trans b2)
          clear R1 B1 R2 b2 hsz1
          go_wp2_with fail
          refine (skip_calls s hs n hto1.2 _).mono ?_
          rintro e w3 ⟨rfl, rfl⟩
          generalize skipTo false s n = q at *
          go_wp2
          go_roundw
          case rel => exact ⟨q, f, acc ++ [⟨t0, t1, t2, t3⟩], hq2, rfl, by simp; omega, by omega, H.out, R3.out, B3.out⟩
          case measure => simp [intOf]; omega
      · have H := hid (hbad hne)
        have en : (er != 0) = true := by rw [bne_iff_ne]; exact hne
        clear hbad hfull hmore hto
        go_wp2_with fail
        refine (next_calls s hs j hjl _ h1 SG1).mono ?_
        rintro e w1 ⟨rfl, b1⟩
        rw [Ho.out]
        have B1 := hid (below_in B.out (Nat.le_refl _) b1)
        clear b1 SG1 R B
        unfold TokOut.ending Tok.val
        go_wp2
        go_ret3
        exact ⟨.slice none 0 0, by rw [H.out]; rfl, by rw [H.out]; exact row_nil _ _ _, B1.out.alloc B1.out.size _⟩
    · have H := hid (hout.trans (tokGo_end (by omega)))
      clear hout
      go_wp2_with (at_builtin; refine wp_tapp rfl _ _ rfl w.heap.size acc ⟨6, ⟨#[]⟩, 0, s.size⟩ _ rfl _ (by rfl) R.out _ (by rfl) (by simp) (by omega) hsz ?_)
      intro v' w2 R2 B2
      go_wp2
      go_ret3
      exact ⟨v', by rw [H.out]; rfl, by rw [H.out]; exact R2, B.out.trans B2⟩

end Go.Proofs.YtijbiedblahmhaaDoor
