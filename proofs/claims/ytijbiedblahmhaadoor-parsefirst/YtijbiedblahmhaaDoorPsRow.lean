/- Nodes in a row that grows. -/
import Derived.Test.YtijbiedblahmhaaDoorJoint5
import Derived.Handy
import Derived.Deep.RegionLaw
namespace Go.Proofs.YtijbiedblahmhaaDoor
open Go.RowKit

/-- a node's seven cells -/
def ndl (x : Nd) (nv kv : Value) : List Value := [.int .i64 x.kind, .int .i64 x.op, .int .i64 x.num, .string x.str, nv, kv, .int .i64 x.pl]
/-- nodes one behind the other -/
def RowN (ok : Nat → Prop) (w : World) : List Nd → List Value → Prop
  | [], cs => cs = []
  | x :: r, cs => ∃ nv kv cs', cs = ndl x nv kv ++ cs' ∧ NdW ok w x nv kv ∧ RowN ok w r cs'
theorem rowN_len {ok : Nat → Prop} {w : World} : ∀ {ks : List Nd} {cs : List Value}, RowN ok w ks cs → cs.length = ks.length * 7
  | [], cs, h => by rw [show cs = [] from h]; rfl
  | x :: r, cs, h => by
    obtain ⟨nv, kv, cs', rfl, _, h3⟩ := h
    have := rowN_len h3
    simp [ndl, this]; omega
theorem rowN_keep {ok ok' : Nat → Prop} {a c : World} (hk : ∀ b, ok b → ok' b ∧ c.heap[b]? = a.heap[b]?) : ∀ {ks : List Nd} {cs : List Value}, RowN ok a ks cs → RowN ok' c ks cs
  | [], cs, h => h
  | x :: r, cs, h => by
    obtain ⟨nv, kv, cs', e, h2, h3⟩ := h
    exact ⟨nv, kv, cs', e, ndW_keep hk _ _ _ h2, rowN_keep hk h3⟩
theorem rowN_snoc {ok : Nat → Prop} {w : World} {x : Nd} {nv kv : Value} (hx : NdW ok w x nv kv) : ∀ {ks : List Nd} {cs : List Value}, RowN ok w ks cs → RowN ok w (ks ++ [x]) (cs ++ ndl x nv kv)
  | [], cs, h => by rw [show cs = [] from h]; exact ⟨nv, kv, [], by simp, hx, rfl⟩
  | y :: r, cs, h => by
    obtain ⟨nv', kv', cs', rfl, h2, h3⟩ := h
    exact ⟨nv', kv', cs' ++ ndl x nv kv, by simp, h2, rowN_snoc hx h3⟩
/-- they lie so in a block -/
theorem rowN_nds {ok : Nat → Prop} {w : World} {g : Nat} {T : TypeId} {cur : Array Value} (hb : Blk g T cur w) : ∀ {ks : List Nd} {cs : List Value} {off : Nat}, RowN ok w ks cs → (∀ i, i < cs.length → cur[off + i]? = cs[i]?) → NdsW ok w g ks off
  | [], cs, off, h, _ => by rw [NdsW]; trivial
  | x :: r, cs, off, h, hc => by
    obtain ⟨nv, kv, cs', rfl, h2, h3⟩ := h
    have hl : (ndl x nv kv).length = 7 := rfl
    refine nds_one hb h2 r (rowN_nds hb h3 fun i hi => ?_) ?_ ?_ ?_ ?_ ?_ ?_ ?_
    · have := hc (7 + i) (by simp [ndl]; omega)
      rw [show off + (7 + i) = off + 7 + i by omega] at this
      rw [this, List.getElem?_append_right (by simp [ndl])]
      simp [ndl]
    · simpa [ndl] using hc 0 (by simp [ndl])
    · simpa [ndl] using hc 1 (by simp [ndl])
    · simpa [ndl] using hc 2 (by simp [ndl])
    · simpa [ndl] using hc 3 (by simp [ndl])
    · simpa [ndl] using hc 4 (by simp [ndl])
    · simpa [ndl] using hc 5 (by simp [ndl])
    · simpa [ndl] using hc 6 (by simp [ndl])

/-- the nodes of a row lie elsewhere than the row -/
def Els (ok : Nat → Prop) (v : Value) (w : World) (b : Nat) : Prop := ok b ∧ b < w.heap.size ∧ some b ≠ v.ownBlock
/-- a slice of nodes of one's own that may grow -/
def KRow (lo : Nat) (ok : Nat → Prop) (w : World) (v : Value) (ks : List Nd) : Prop :=
  ∃ cs, w.ownsRow lo 26 7 v ks.length cs ∧ RowN (Els ok v w) w ks cs ∧ ∀ g, v.ownBlock = some g → ok g
theorem krow_kids {lo : Nat} {ok : Nat → Prop} {w : World} {v : Value} {ks : List Nd} (h : KRow lo ok w v ks) : KdO ok w v ks := by
  obtain ⟨cs, hown, hr, hg⟩ := h
  rcases hown.2 with ⟨h1, h2⟩ | ⟨g, cap, cur, h1, h2, h3, h4, h5, h6, h7⟩
  · have : ks = [] := List.length_eq_zero_iff.1 h2
    subst this
    exact .inl ⟨none, 0, h1, rfl⟩
  · have hlt : g < w.heap.size := blk_lt (show Blk g 26 cur w from h3)
    refine .inr ⟨g, 0, cap, h1, ⟨hg g (by rw [h1]; rfl), hlt⟩, ?_, h4⟩
    have hcl := rowN_len hr
    have hr2 : RowN (OwnO ok w) w ks cs := rowN_keep (fun b hb => ⟨⟨hb.1, hb.2.1⟩, rfl⟩) hr
    exact rowN_nds (show Blk g 26 cur w from h3) hr2 fun i hi => by
      rw [Nat.zero_add, ← h7, List.getElem?_take, if_pos (by omega), Array.getElem?_toList]
theorem infoN : ∃ i0, Tryd.prog.info? 26 = some i0 ∧ i0.zero = some (.agg #[.int .i64 0, .int .i64 0, .int .i64 0, .string ⟨#[]⟩, .slice none 0 0, .slice none 0 0, .int .i64 0]) ∧ i0.size = 7 ∧ i0.bytes = 96 :=
  info_parts (show (Tryd.prog.info? 26).map (fun i => (i.zero, i.size, i.bytes)) = some (some (.agg #[.int .i64 0, .int .i64 0, .int .i64 0, .string ⟨#[]⟩, .slice none 0 0, .slice none 0 0, .int .i64 0]), 7, 96) by kernel_rfl)
theorem underN : Tryd.prog.underlying 24 = some (.slice 26) := by kernel_rfl
def zl : List Value := [.int .i64 0, .int .i64 0, .int .i64 0, .string ⟨#[]⟩, .slice none 0 0, .slice none 0 0, .int .i64 0]
/-- below lo, and but for the parser, all is as it was -/
structure ButLo (lo P : Nat) (w w' : World) : Prop where
  os : w'.os = w.os
  tape : w'.tape = w.tape
  output : w'.output = w.output
  size : w.heap.size ≤ w'.heap.size
  block : ∀ k, k < lo → k ≠ P → w'.heap[k]? = w.heap[k]?
theorem ButLo.refl (lo P : Nat) (w : World) : ButLo lo P w w := ⟨rfl, rfl, rfl, Nat.le_refl _, fun _ _ _ => rfl⟩
theorem ButLo.trans {lo P : Nat} {a b c : World} (h : ButLo lo P a b) (k : ButLo lo P b c) : ButLo lo P a c :=
  ⟨k.os.trans h.os, k.tape.trans h.tape, k.output.trans h.output, Nat.le_trans h.size k.size, fun i h1 h2 => (k.block i h1 h2).trans (h.block i h1 h2)⟩
theorem ButLo.of {lo P : Nat} {a b : World} (h : But P a b) (hl : lo ≤ a.heap.size) : ButLo lo P a b := ⟨h.os, h.tape, h.output, h.size, fun k h1 h2 => h.block k (by omega) h2⟩
theorem ButLo.set {lo P g i : Nat} (w : World) (v : Value) (hg : lo ≤ g) : ButLo lo P w (w.setCell ⟨g, i, none⟩ v) := ⟨rfl, rfl, rfl, by simp [World.setCell], fun k h1 _ => Below.heap_setCell _ _ _ _ (by simp; omega)⟩
theorem ButLo.grown {lo P : Nat} {a b : World} {row : Option Nat} (h : a.grownBy b row) (hl : lo ≤ a.heap.size) (hr : ∀ k, row = some k → lo ≤ k) : ButLo lo P a b :=
  ⟨h.os, h.tape, h.output, h.size, fun k h1 _ => h.block k (by omega) (fun e => by have := hr k e.symm; omega)⟩
/-- a row is where it was, if its block is -/
theorem krow_keep {lo : Nat} {ok : Nat → Prop} {a c : World} {v : Value} {ks : List Nd} (h : KRow lo ok a v ks) (hs : a.heap.size ≤ c.heap.size) (hk : ∀ b, ok b → b < a.heap.size → c.heap[b]? = a.heap[b]?) : KRow lo ok c v ks := by
  obtain ⟨cs, hown, hr, hg⟩ := h
  refine ⟨cs, ⟨hown.1, ?_⟩, rowN_keep (fun b hb => ⟨⟨hb.1, Nat.lt_of_lt_of_le hb.2.1 hs, hb.2.2⟩, hk b hb.1 hb.2.1⟩) hr, hg⟩
  rcases hown.2 with h1 | ⟨g, cap, cur, h1, h2, h3, h4⟩
  · exact .inl h1
  · refine .inr ⟨g, cap, cur, h1, h2, ?_, h4⟩
    have hlt : g < a.heap.size := blk_lt (show Blk g 26 cur a from h3)
    rw [hk g (hg g (by rw [h1]; rfl)) hlt]; exact h3
theorem krow_but {lo P : Nat} {ok : Nat → Prop} {a c : World} {v : Value} {ks : List Nd} (h : KRow lo ok a v ks) (k : But P a c) (hp : ¬ ok P) : KRow lo ok c v ks :=
  krow_keep h k.size (fun b hb hlt => k.block b hlt (fun e => hp (e ▸ hb)))
theorem krow_below {lo : Nat} {ok : Nat → Prop} {a c : World} {v : Value} {ks : List Nd} (h : KRow lo ok a v ks) (k : Below a.heap.size a c) : KRow lo ok c v ks :=
  krow_keep h k.size (fun b _ hlt => k.block b hlt)
theorem krow_shape {lo : Nat} {ok : Nat → Prop} {w : World} {v : Value} {ks : List Nd} (h : KRow lo ok w v ks) : ∃ ao cap, v = .slice ao ks.length cap := kdO_shape (krow_kids h)
theorem arr_self {cs : Array Value} {i : Nat} {v : Value} (h : i < cs.size) : (cs.setIfInBounds i v)[i]? = some v := by simp [h]
theorem arr_ne {cs : Array Value} {i j : Nat} {v : Value} (h : i ≠ j) : (cs.setIfInBounds i v)[j]? = cs[j]? := by simp [h]
/-- a node is laid behind the others: the room is there, and then it is written -/
theorem krow_put {lo : Nat} {ok : Nat → Prop} {a b c : World} {v : Value} {ks : List Nd} {cs : List Value} {g cap : Nat} {x : Nd} {nv kv : Value} (_hl : lo ≤ a.heap.size) (hup : ∀ k, a.heap.size ≤ k → ok k)
    (hr : RowN (Els ok v a) a ks cs) (hg : ∀ k, v.ownBlock = some k → ok k) (hx : NdW (Els ok v a) a x nv kv)
    (hown : b.ownsRow lo 26 7 (.slice (some ⟨g, 0, none⟩) (ks.length + 1) cap) (ks.length + 1) (cs ++ zl)) (hgr : a.grownBy b v.ownBlock) (hat : v.ownBlock = some g ∨ g = a.heap.size)
    (hc : ∃ cur, b.heap[g]? = some (.cells cur 26 (0, 0)) ∧ c.heap[g]? = some (.cells (((((((cur.setIfInBounds (ks.length * 7) (.int .i64 x.kind)).setIfInBounds (ks.length * 7 + 1) (.int .i64 x.op)).setIfInBounds (ks.length * 7 + 2) (.int .i64 x.num)).setIfInBounds (ks.length * 7 + 3) (.string x.str)).setIfInBounds (ks.length * 7 + 4) nv).setIfInBounds (ks.length * 7 + 5) kv).setIfInBounds (ks.length * 7 + 6) (.int .i64 x.pl)) 26 (0, 0)))
    (hcs : b.heap.size ≤ c.heap.size) (hck : ∀ k, ok k → k < b.heap.size → k ≠ g → c.heap[k]? = b.heap[k]?) : KRow lo ok c (.slice (some ⟨g, 0, none⟩) (ks.length + 1) cap) (ks ++ [x]) := by
  have hcl := rowN_len hr
  have hok : ok g := by rcases hat with h | h; exact hg g h; exact hup g (by omega)
  have keep : ∀ k, Els ok v a k → Els ok (.slice (some ⟨g, 0, none⟩) (ks.length + 1) cap) c k ∧ c.heap[k]? = a.heap[k]? := by
    rintro k ⟨h1, h2, h3⟩
    have hkg : k ≠ g := by rintro rfl; rcases hat with h | h; exact h3 h.symm; omega
    have h4 : b.heap[k]? = a.heap[k]? := hgr.block k h2 h3
    have h5 := hgr.size
    exact ⟨⟨h1, by omega, by simp [Value.ownBlock, hkg]⟩, (hck k h1 (by omega) hkg).trans h4⟩
  refine ⟨cs ++ ndl x nv kv, ⟨by simp [ndl, hcl]; omega, ?_⟩, rowN_snoc (ndW_keep keep _ _ _ hx) (rowN_keep keep hr), fun k hk => by simp [Value.ownBlock] at hk; exact hk ▸ hok⟩
  rcases hown.2 with ⟨h1, _⟩ | ⟨g2, cap2, cur2, h1, h2, h3, h4, h5, h6, h7⟩
  · cases h1
  · injection h1 with e1 e2 e3
    injection e1 with e1
    injection e1 with e1
    subst e1 e3
    obtain ⟨cur, hb, hc⟩ := hc
    rw [h3] at hb
    injection hb with hb
    injection hb with hb
    subst hb
    refine .inr ⟨g, cap, _, by simp, h2, hc, by simpa using h4, h5, by simpa using h6, ?_⟩
    have hlen : cs.length = ks.length * 7 := hcl
    have hsz : cur2.toList.length = cap * 7 := by simpa using h6
    have hcap : (ks.length + 1) * 7 ≤ cap * 7 := by omega
    have e0 : cur2.toList.take (ks.length * 7) = cs := by
      have := congrArg (List.take (ks.length * 7)) h7
      rw [List.take_take, Nat.min_eq_left (by omega), List.take_left' hlen] at this
      exact this
    have hn : (ks ++ [x]).length * 7 = ks.length * 7 + 7 := by simp; omega
    have hsize : cur2.size = cap * 7 := h6
    apply List.ext_getElem?
    intro i
    rw [List.getElem?_take, hn]
    by_cases hi : i < ks.length * 7
    · rw [if_pos (by omega), Array.getElem?_toList, List.getElem?_append_left (by omega)]
      rw [Array.getElem?_setIfInBounds_ne (by omega), Array.getElem?_setIfInBounds_ne (by omega), Array.getElem?_setIfInBounds_ne (by omega), Array.getElem?_setIfInBounds_ne (by omega), Array.getElem?_setIfInBounds_ne (by omega), Array.getElem?_setIfInBounds_ne (by omega), Array.getElem?_setIfInBounds_ne (by omega)]
      rw [← e0, List.getElem?_take, if_pos hi, Array.getElem?_toList]
    · by_cases hi2 : i < ks.length * 7 + 7
      · obtain ⟨j, hj, rfl⟩ : ∃ j, j < 7 ∧ i = ks.length * 7 + j := ⟨i - ks.length * 7, by omega, by omega⟩
        rw [if_pos hi2, Array.getElem?_toList, List.getElem?_append_right (by omega), hlen, Nat.add_sub_cancel_left]
        obtain rfl | rfl | rfl | rfl | rfl | rfl | rfl : j = 0 ∨ j = 1 ∨ j = 2 ∨ j = 3 ∨ j = 4 ∨ j = 5 ∨ j = 6 := by omega
        all_goals
          try simp only [Nat.add_zero]
          repeat (first | rw [arr_self (by (try simp only [Array.size_setIfInBounds]); omega)] | rw [arr_ne (by omega)])
          rfl
      · rw [if_neg hi2, List.getElem?_eq_none (by simp [ndl]; omega)]


end Go.Proofs.YtijbiedblahmhaaDoor
