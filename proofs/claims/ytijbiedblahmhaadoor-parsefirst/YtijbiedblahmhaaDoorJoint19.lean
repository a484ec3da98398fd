/- Bytes of the call's own that grow. Slices of tokens of the call's own. -/
import Derived.Test.YtijbiedblahmhaaDoorJoint1
import Derived.Test.YtijbiedblahmhaaDoorBld
import Derived.Laws.BytesArg
import Derived.Deep.RegionLaw
import Derived.Test.YtijbiedblahmhaaDoorLexNext
namespace Go.Proofs.YtijbiedblahmhaaDoor
open Go.RowKit

/-- a slice of bytes of the call's own: it holds l -/
def Owns (B : Nat) (v : Value) (l : List UInt8) (w : World) : Prop := w.ownsRow B 5 1 v l.length (Lib.byteCells l)

/-- append of bytes that were written out, onto a slice of the call's own -/
theorem wp_app {ops : Array Oper} {rest : List Oper} {o : Oper} {a : Act} {Q : Exit → Act → World → Prop} {w : World} (hgd : o.guard = none) (s x : Operand)
    (ho : o.op = .call { callee := .builtin .append, args := #[s, x], argTypes := #[65, 65] })
    (B : Nat) (l news : List UInt8) (cs : Array Value) (n : Nat) (hn : news.length = n) (hcs : cs = (Lib.byteCells news).toArray) (v : Value) (hs : a.eval s = v) (hown : Owns B v l w)
    (hx : a.eval x = .slice (some ⟨w.heap.size, 0, none⟩) n n) (hlen : l.length + n ≤ 140737488355328) (hB : B ≤ w.heap.size) (h0 : 0 < n)
    (h : ∀ g cap w', Owns B (.slice (some ⟨g, 0, none⟩) (l.length + n) cap) (l ++ news) w' → Below B w w' → wpList Tryd.prog ops Q rest (a.put o.dst (.slice (some ⟨g, 0, none⟩) (l.length + n) cap)) w') :
    wpList Tryd.prog ops Q (o :: rest) a (w.alloc (.cells cs 5)) := by
  obtain ⟨i0, hi, hz0, hz1, hz2⟩ := info8
  refine wpList_append_own _ hgd s x 65 ho B 5 i0 (.int .u8 0) 1 1 under_bytes hi hz0 hz1 hz2 rfl (by decide) v _ _ hs (World.ownsRow.alloc hown _) ⟨w.heap.size, 0, none⟩ n n (Lib.byteCells news) hx (by rw [Lib.byteCells_length]; omega) ?_ ?_ (by unfold maxLen; omega) (by omega) (by simp; omega) ?_
  · intro j u hj
    have e : (⟨w.heap.size, 0, none⟩ : Addr).add j = ⟨w.heap.size, j, none⟩ := by unfold Addr.add; split <;> simp_all
    rw [e, World.cell?_alloc_new, hcs]
    simpa using hj
  · intro u hu
    simp [Lib.byteCells] at hu
    obtain ⟨b, _, rfl⟩ := hu
    rfl
  · intro v' w2 hown' hgrow _
    obtain ⟨g, cap, rfl⟩ : ∃ g cap, v' = .slice (some ⟨g, 0, none⟩) (l.length + n) cap := by
      rcases hown'.2 with ⟨_, h0⟩ | ⟨g, cap, cur, hv, _⟩
      · omega
      · exact ⟨g, cap, hv⟩
    refine h g cap w2 ?_ ?_
    · unfold Owns
      rw [Lib.byteCells_append, List.length_append, hn]
      exact hown'
    · exact ((Below.refl B w).alloc hB _).grown hgrow (by simp; omega) (fun k hk => (hown.lt k hk).1)

/-- the same, as one step of a region that draws its order -/
theorem step_app {ops : Array Oper} {o : Oper} {a : Act} {w : World} {K : Act → World → Prop} {Q : Exit → Act → World → Prop} {E : Prop} (hgd : o.guard = none) (s x : Operand)
    (ho : o.op = .call { callee := .builtin .append, args := #[s, x], argTypes := #[65, 65] })
    (B : Nat) (l news : List UInt8) (cs : Array Value) (n : Nat) (hn : news.length = n) (hcs : cs = (Lib.byteCells news).toArray) (v : Value) (hs : a.eval s = v) (hown : Owns B v l w)
    (hx : a.eval x = .slice (some ⟨w.heap.size, 0, none⟩) n n) (hlen : l.length + n ≤ 140737488355328) (hB : B ≤ w.heap.size) (h0 : 0 < n)
    (h : ∀ g cap w', Owns B (.slice (some ⟨g, 0, none⟩) (l.length + n) cap) (l ++ news) w' → Below B w w' → K (a.put o.dst (.slice (some ⟨g, 0, none⟩) (l.length + n) cap)) w') :
    if Region.wanted o (yielded ops a.tmps) = true then Oper.wp Tryd.prog o a (w.alloc (.cells cs 5)).drew K Q else E := by
  have hw : Region.wanted o (yielded ops a.tmps) = true := by simp [Region.wanted, hgd]
  rw [if_pos hw]
  obtain ⟨i0, hi, hz0, hz1, hz2⟩ := info8
  have hown1 : (w.alloc (.cells cs 5)).drew.ownsRow B 5 1 v l.length (Lib.byteCells l) := World.ownsRow.alloc hown _
  refine wp_append_own _ s x 65 ho B 5 i0 (.int .u8 0) 1 1 under_bytes hi hz0 hz1 hz2 rfl (by decide) v _ _ hs hown1 ⟨w.heap.size, 0, none⟩ n n (Lib.byteCells news) hx (by rw [Lib.byteCells_length]; omega) ?_ ?_ (by unfold maxLen; omega) (by omega) (by show B ≤ (w.alloc (.cells cs 5)).heap.size; simp; omega) ?_
  · intro j u hj
    have e : (⟨w.heap.size, 0, none⟩ : Addr).add j = ⟨w.heap.size, j, none⟩ := by unfold Addr.add; split <;> simp_all
    show (w.alloc (.cells cs 5)).cell? _ = _
    rw [e, World.cell?_alloc_new, hcs]
    simpa using hj
  · intro u hu
    simp [Lib.byteCells] at hu
    obtain ⟨b, _, rfl⟩ := hu
    rfl
  · intro v' w2 hown' hgrow _
    obtain ⟨g, cap, rfl⟩ : ∃ g cap, v' = .slice (some ⟨g, 0, none⟩) (l.length + n) cap := by
      rcases hown'.2 with ⟨_, h0⟩ | ⟨g, cap, cur, hv, _⟩
      · omega
      · exact ⟨g, cap, hv⟩
    refine h g cap w2 ?_ ?_
    · unfold Owns
      rw [Lib.byteCells_append, List.length_append, hn]
      exact hown'
    · exact (((Below.refl B w).alloc hB _).drew).grown hgrow (by show B ≤ (w.alloc (.cells cs 5)).heap.size; simp; omega) (fun k hk => (hown.lt k hk).1)

theorem owns_string {B g cap n : Nat} {l : List UInt8} {w : World} (h : Owns B (.slice (some ⟨g, 0, none⟩) n cap) l w) (hn : n = l.length) :
    (convert 65 9 (.slice (some ⟨g, 0, none⟩) n cap)).run Tryd.prog w = .ok (.string ⟨l.toArray⟩) w := by
  subst hn
  refine run_convert_bytes_back w 65 9 5 ⟨g, 0, none⟩ cap l (by kernel_rfl) (by kernel_rfl) (by kernel_rfl) (fun j hj => ?_)
  exact World.ownsRow.cells h (g := g) rfl j (.int .u8 l[j].toNat) (by simp [Lib.byteCells, hj])

theorem owns_first (w : World) (c : UInt8) (n : Int) (hn : n = (c.toNat : Int)) : Owns w.heap.size (.slice (some ⟨w.heap.size, 0, none⟩) 1 1) [c] (w.alloc (.cells #[.int .u8 n] 5)) := by
  subst hn
  exact ⟨rfl, .inr ⟨w.heap.size, 1, #[.int .u8 c.toNat], rfl, Nat.le_refl _, heap_alloc_new w _, Nat.le_refl _, by unfold maxLen; decide, rfl, rfl⟩⟩

end Go.Proofs.YtijbiedblahmhaaDoor

namespace Go.Proofs.YtijbiedblahmhaaDoor
open Go.RowKit

def tokCells (l : List Tok) : List Value := l.flatMap Tok.cells
theorem tokCells_length (l : List Tok) : (tokCells l).length = l.length * 4 := by
  induction l with
  | nil => rfl
  | cons t l ih => simp [tokCells, Tok.cells] at ih ⊢; omega
theorem tokCells_append (l m : List Tok) : tokCells (l ++ m) = tokCells l ++ tokCells m := by simp [tokCells]
theorem tokCells_one (l : List Tok) : ∀ u ∈ tokCells l, u.oneCell' = true := by
  intro u hu
  simp only [tokCells, List.mem_flatMap, Tok.cells] at hu
  obtain ⟨t, _, hu⟩ := hu
  simp at hu
  rcases hu with rfl | rfl | rfl | rfl <;> rfl

/-- a slice of tokens (of type T) of the call's own: it holds l -/
def Row (T : TypeId) (B : Nat) (v : Value) (l : List Tok) (w : World) : Prop := w.ownsRow B T 4 v l.length (tokCells l)
theorem row_nil (T : TypeId) (B : Nat) (w : World) : Row T B (.slice none 0 0) [] w := ⟨rfl, .inl ⟨rfl, rfl⟩⟩
theorem row_shape {T : TypeId} {B : Nat} {v : Value} {l : List Tok} {w : World} (h : Row T B v l w) : ∃ ao cap, v = .slice ao l.length cap := by
  rcases h.2 with ⟨h1, h2⟩ | ⟨g, cap, cur, h1, _⟩
  · exact ⟨none, 0, by rw [h1, h2]⟩
  · exact ⟨_, _, h1⟩
theorem row_on {T : TypeId} {B : Nat} {v : Value} {l : List Tok} {a b : World} (h : Row T B v l a) (k : Below a.heap.size a b) : Row T B v l b := by
  refine ⟨h.1, ?_⟩
  rcases h.2 with h1 | ⟨g, cap, cur, h1, h2, h3, h4⟩
  · exact .inl h1
  · refine .inr ⟨g, cap, cur, h1, h2, ?_, h4⟩
    rw [k.block g (by
      rcases Nat.lt_or_ge g a.heap.size with h | h
      · exact h
      · rw [Array.getElem?_eq_none h] at h3; cases h3)]
    exact h3

theorem infoT : ∃ i0, Tryd.prog.info? 41 = some i0 ∧ i0.zero = some (.agg #[.int .i64 0, .string ⟨#[]⟩, .int .i64 0, .int .i64 0]) ∧ i0.size = 4 ∧ i0.bytes = 40 :=
  info_parts (show (Tryd.prog.info? 41).map (fun i => (i.zero, i.size, i.bytes)) = some (some (.agg #[.int .i64 0, .string ⟨#[]⟩, .int .i64 0, .int .i64 0]), 4, 40) by kernel_rfl)
theorem underT : Tryd.prog.underlying 35 = some (.slice 41) := by kernel_rfl
/-- append of one token that was written out, onto a slice of the call's own -/
theorem wp_tapp {ops : Array Oper} {rest : List Oper} {o : Oper} {a : Act} {Q : Exit → Act → World → Prop} {w : World} (hgd : o.guard = none) (s x : Operand)
    (ho : o.op = .call { callee := .builtin .append, args := #[s, x], argTypes := #[35, 35] })
    (B : Nat) (l : List Tok) (t : Tok) (cs : Array Value) (hcs : cs = t.cells.toArray) (v : Value) (hs : a.eval s = v) (hown : Row 41 B v l w)
    (nb : Nat) (hx : a.eval x = .slice (some ⟨nb, 0, none⟩) 1 1) (hnb : nb = w.heap.size) (hlen : l.length ≤ 1000000) (hB : B ≤ w.heap.size)
    (h : ∀ v' w', Row 41 B v' (l ++ [t]) w' → Below B w w' → wpList Tryd.prog ops Q rest (a.put o.dst v') w') :
    wpList Tryd.prog ops Q (o :: rest) a (w.alloc (.cells cs 41)) := by
  subst hnb
  obtain ⟨i0, hi, hz0, hz1, hz2⟩ := infoT
  refine wpList_append_own _ hgd s x 35 ho B 41 i0 _ 4 40 underT hi hz0 hz1 hz2 rfl (by decide) v _ _ hs (World.ownsRow.alloc hown _) ⟨w.heap.size, 0, none⟩ 1 1 t.cells hx rfl ?_ ?_ (by unfold maxLen; omega) (by omega) (by simp; omega) ?_
  · intro j u hj
    have e : (⟨w.heap.size, 0, none⟩ : Addr).add j = ⟨w.heap.size, j, none⟩ := by unfold Addr.add; split <;> simp_all
    rw [e, World.cell?_alloc_new, hcs]
    simpa using hj
  · intro u hu
    exact tokCells_one [t] u (by simpa [tokCells] using hu)
  · intro v' w2 hown' hgrow _
    refine h v' w2 ?_ ?_
    · unfold Row
      rw [tokCells_append, List.length_append]
      simpa [tokCells] using hown'
    · exact ((Below.refl B w).alloc hB _).grown hgrow (by simp; omega) (fun k hk => (hown.lt k hk).1)

/-! how far a token goes -/
theorem runL_pos {p : Nat → Bool} {b : UInt8} {r : List UInt8} (h : p b.toNat = true) : 1 ≤ runL p (b :: r) := by simp [runL, h]
theorem firstOf_pref : ∀ (L : List (List UInt8)) (l : List UInt8), firstOf L l = [] ∨ (firstOf L l).isPrefixOf l = true
  | [], _ => .inl rfl
  | x :: L, l => by
    unfold firstOf
    split
    · right; assumption
    · exact firstOf_pref L l
theorem one_on {l : List UInt8} {k : Nat} (h : (oneOut l k).2.2 = 0) : k < (oneOut l k).2.1 ∧ (oneOut l k).2.1 ≤ k + l.length := by
  match l with
  | [] => simp [oneOut] at h
  | b :: r =>
    unfold oneOut at h ⊢
    simp only at h ⊢
    by_cases hl : letterN b.toNat = true
    · rw [if_pos hl] at h ⊢
      unfold wordOut at h ⊢
      have h1 : 1 ≤ runL wordN (b :: r) := runL_pos (by simp [wordN, hl])
      have h2 := runL_le wordN (b :: r)
      split at h
      · rename_i h3; rw [if_pos h3]; exact ⟨by simp only; omega, by simp only; omega⟩
      · rename_i h3
        rw [if_neg h3]
        split at h
        · rename_i h4; rw [if_pos h4]; exact ⟨by simp only; omega, by simp only; omega⟩
        · simp at h
    · rw [if_neg hl] at h ⊢
      by_cases hd : digitN b.toNat = true
      · rw [if_pos hd] at h ⊢
        unfold numbOut at h ⊢
        have h1 : 1 ≤ runL digitN (b :: r) := runL_pos hd
        have h2 := runL_le digitN (b :: r)
        split at h
        · rename_i h3; rw [if_pos h3]; exact ⟨by simp only; omega, by simp only; omega⟩
        · rename_i h3; exact absurd h h3
      · rw [if_neg hd] at h ⊢
        by_cases h34 : b.toNat = 34
        · rw [if_pos h34] at h ⊢
          unfold quoOut at h ⊢
          split at h
          · rename_i h3
            rw [if_pos h3]
            split at h
            · simp at h
            · rename_i h4
              rw [if_neg h4]
              have hg : takeOut (b :: r) = ((takeOut (b :: r)).1, (takeOut (b :: r)).2.1, 0) := by rw [← h3]
              have := takeOut_good hg
              exact ⟨by simp only; omega, by simp only; omega⟩
          · rename_i h3; exact absurd h h3
        · rw [if_neg h34] at h ⊢
          unfold sgnOut at h ⊢
          split at h
          · simp at h
          · rename_i h3
            rw [if_neg h3]
            have h4 : 0 < (signL (b :: r)).length := List.length_pos_iff.2 h3
            have h5 : (signL (b :: r)).length ≤ (b :: r).length := by
              rcases firstOf_pref sgnL (b :: r) with h6 | h6
              · exact absurd h6 h3
              · exact (List.isPrefixOf_iff_prefix.1 h6).length_le
            exact ⟨by simp only; omega, by simp only; omega⟩
theorem one_to {s : ByteArray} {k : Nat} (hk : k ≤ s.size) (h : (oneOut (s.data.toList.drop k) k).2.2 = 0) : k < (oneOut (s.data.toList.drop k) k).2.1 ∧ (oneOut (s.data.toList.drop k) k).2.1 ≤ s.size := by
  have := one_on h
  rw [List.length_drop, list_size] at this
  omega

end Go.Proofs.YtijbiedblahmhaaDoor
