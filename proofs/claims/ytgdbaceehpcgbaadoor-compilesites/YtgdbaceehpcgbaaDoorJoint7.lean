/- Nodes in blocks of some set. What a function declares. A name's number; names that are cloned. A node that a call gives back from its own cell. -/
import Derived.Test.YtgdbaceehpcgbaaDoorJoint3
import Derived.Test.YtgdbaceehpcgbaaDoorMapG
import Derived.Test.YtgdbaceehpcgbaaDoorJoint6
import Derived.Maps.OwnSet
namespace Go.Proofs.YtgdbaceehpcgbaaDoor
open Go.RowKit

def StrsS (ok : Nat → Prop) (v : Value) (l : List ByteArray) (w : World) : Prop :=
  (∃ ao cap, v = .slice ao 0 cap ∧ l = []) ∨ ∃ b off cap, v = .slice (some ⟨b, off, none⟩) l.length cap ∧ ok b ∧ StrsAt b off l w ∧ l.length ≤ cap
mutual
/-- a node whose names and kids lie in such blocks -/
def NdS (ok : Nat → Prop) (w : World) : Nd → Value → Value → Prop
  | .mk _ _ _ _ ns ks _, nv, kv => StrsS ok nv ns w ∧ ((∃ ao cap, kv = .slice ao 0 cap ∧ ks = []) ∨ ∃ b off cap, kv = .slice (some ⟨b, off, none⟩) ks.length cap ∧ ok b ∧ NdsS ok w b ks off ∧ ks.length ≤ cap)
def NdsS (ok : Nat → Prop) (w : World) (b : Nat) : List Nd → Nat → Prop
  | [], _ => True
  | .mk k op n s ns ks p :: r, off => (∃ nv kv, NodeAt b off k op n s nv kv p w ∧ NdS ok w (.mk k op n s ns ks p) nv kv) ∧ NdsS ok w b r (off + 7)
end
def KidsS (ok : Nat → Prop) (w : World) (kv : Value) (ks : List Nd) : Prop :=
  (∃ ao cap, kv = .slice ao 0 cap ∧ ks = []) ∨ ∃ b off cap, kv = .slice (some ⟨b, off, none⟩) ks.length cap ∧ ok b ∧ NdsS ok w b ks off ∧ ks.length ≤ cap
theorem ndS_mk {ok : Nat → Prop} {w : World} {k o n : Int} {s : ByteArray} {ns : List ByteArray} {ks : List Nd} {p : Int} {nv kv : Value} : NdS ok w (.mk k o n s ns ks p) nv kv ↔ StrsS ok nv ns w ∧ KidsS ok w kv ks := by
  rw [NdS]; rfl
theorem cellS_eq {a c : World} {g i : Nat} {v : Value} (h : c.heap[g]? = a.heap[g]?) (hc : a.cell? ⟨g, i, none⟩ = some v) : c.cell? ⟨g, i, none⟩ = some v := (World.cell?_of_block (w := a) h).trans hc
theorem strsS_keep {ok ok' : Nat → Prop} {a c : World} (hk : ∀ b, ok b → ok' b ∧ c.heap[b]? = a.heap[b]?) {v : Value} {l : List ByteArray} (h : StrsS ok v l a) : StrsS ok' v l c := by
  rcases h with h | ⟨b, off, cap, h1, h2, h3, h4⟩
  · exact .inl h
  · exact .inr ⟨b, off, cap, h1, (hk b h2).1, fun i hi => cellS_eq (hk b h2).2 (h3 i hi), h4⟩
mutual
theorem ndS_keep {ok ok' : Nat → Prop} {a c : World} (hk : ∀ b, ok b → ok' b ∧ c.heap[b]? = a.heap[b]?) : ∀ (t : Nd) (nv kv : Value), NdS ok a t nv kv → NdS ok' c t nv kv
  | .mk _ _ _ _ ns ks _, nv, kv, h => by
    rw [NdS] at h ⊢
    refine ⟨strsS_keep hk h.1, ?_⟩
    rcases h.2 with h2 | ⟨b, off, cap, e, hb, h3, h4⟩
    · exact .inl h2
    · exact .inr ⟨b, off, cap, e, (hk b hb).1, ndsS_keep hk hb ks off h3, h4⟩
theorem ndsS_keep {ok ok' : Nat → Prop} {a c : World} (hk : ∀ b, ok b → ok' b ∧ c.heap[b]? = a.heap[b]?) {b : Nat} (hb : ok b) : ∀ (ks : List Nd) (off : Nat), NdsS ok a b ks off → NdsS ok' c b ks off
  | [], _, _ => by rw [NdsS]; trivial
  | .mk k op n s ns ks p :: r, off, h => by
    rw [NdsS] at h ⊢
    obtain ⟨⟨nv, kv, h1, h2⟩, h3⟩ := h
    obtain ⟨x0, x1, x2, x3, x4, x5, x6⟩ := h1
    have e := (hk b hb).2
    exact ⟨⟨nv, kv, ⟨cellS_eq e x0, cellS_eq e x1, cellS_eq e x2, cellS_eq e x3, cellS_eq e x4, cellS_eq e x5, cellS_eq e x6⟩, ndS_keep hk _ _ _ h2⟩, ndsS_keep hk hb r _ h3⟩
end
theorem kidsS_keep {ok ok' : Nat → Prop} {a c : World} (hk : ∀ b, ok b → ok' b ∧ c.heap[b]? = a.heap[b]?) {kv : Value} {ks : List Nd} (h : KidsS ok a kv ks) : KidsS ok' c kv ks := by
  rcases h with h2 | ⟨b, off, cap, e, hb, h3, h4⟩
  · exact .inl h2
  · exact .inr ⟨b, off, cap, e, (hk b hb).1, ndsS_keep hk hb ks off h3, h4⟩
theorem ndS_mono {ok ok' : Nat → Prop} {w : World} (h : ∀ b, ok b → ok' b) {t : Nd} {nv kv : Value} (hn : NdS ok w t nv kv) : NdS ok' w t nv kv := ndS_keep (fun b hb => ⟨h b hb, rfl⟩) _ _ _ hn
theorem kidsS_mono {ok ok' : Nat → Prop} {w : World} (h : ∀ b, ok b → ok' b) {kv : Value} {ks : List Nd} (hn : KidsS ok w kv ks) : KidsS ok' w kv ks := kidsS_keep (fun b hb => ⟨h b hb, rfl⟩) hn
mutual
theorem ndS_in {ok : Nat → Prop} {w : World} {B : Nat} (hk : ∀ b, ok b → b < B) : ∀ (t : Nd) (nv kv : Value), NdS ok w t nv kv → NdIn B w t nv kv
  | .mk _ _ _ _ ns ks _, nv, kv, h => by
    rw [NdS] at h
    rw [NdIn]
    refine ⟨?_, ?_⟩
    · rcases h.1 with h1 | ⟨b, off, cap, e, hb, h3, h4⟩
      · exact .inl h1
      · exact .inr ⟨b, off, cap, e, hk b hb, h3, h4⟩
    · rcases h.2 with h2 | ⟨b, off, cap, e, hb, h3, h4⟩
      · exact .inl h2
      · exact .inr ⟨b, off, cap, e, hk b hb, ndsS_in hk ks off h3, h4⟩
theorem ndsS_in {ok : Nat → Prop} {w : World} {B : Nat} (hk : ∀ b, ok b → b < B) {b : Nat} : ∀ (ks : List Nd) (off : Nat), NdsS ok w b ks off → NdsAt B w b ks off
  | [], _, _ => by rw [NdsAt]; trivial
  | .mk k op n s ns ks p :: r, off, h => by
    rw [NdsS] at h
    rw [NdsAt]
    obtain ⟨⟨nv, kv, h1, h2⟩, h3⟩ := h
    exact ⟨⟨nv, kv, h1, ndS_in hk _ _ _ h2⟩, ndsS_in hk r _ h3⟩
end
theorem kidsS_in {ok : Nat → Prop} {w : World} {B : Nat} (hk : ∀ b, ok b → b < B) {kv : Value} {ks : List Nd} (h : KidsS ok w kv ks) : KidsIn B w kv ks := by
  rcases h with h | ⟨b, off, cap, e, hb, h3, h4⟩
  · exact .inl h
  · exact .inr ⟨b, off, cap, e, hk b hb, ndsS_in hk ks off h3, h4⟩
theorem kidsS_shape {ok : Nat → Prop} {w : World} {kv : Value} {ks : List Nd} (h : KidsS ok w kv ks) : ∃ ao cap, kv = .slice ao ks.length cap := by
  rcases h with ⟨ao, cap, e, rfl⟩ | ⟨b, off, cap, e, _⟩
  · exact ⟨ao, cap, e⟩
  · exact ⟨_, cap, e⟩
theorem strsS_shape {ok : Nat → Prop} {w : World} {nv : Value} {ns : List ByteArray} (h : StrsS ok nv ns w) : ∃ ao cap, nv = .slice ao ns.length cap := by
  rcases h with ⟨ao, cap, e, rfl⟩ | ⟨b, off, cap, e, _⟩
  · exact ⟨ao, cap, e⟩
  · exact ⟨_, cap, e⟩

/-! a row of nodes that grows -/
def ndl (x : Nd) (nv kv : Value) : List Value := [.int .i64 x.kind, .int .i64 x.op, .int .i64 x.num, .string x.str, nv, kv, .int .i64 x.pl]
def RowS (ok : Nat → Prop) (w : World) : List Nd → List Value → Prop
  | [], cs => cs = []
  | x :: r, cs => ∃ nv kv cs', cs = ndl x nv kv ++ cs' ∧ NdS ok w x nv kv ∧ RowS ok w r cs'
theorem rowS_len {ok : Nat → Prop} {w : World} : ∀ {ks : List Nd} {cs : List Value}, RowS ok w ks cs → cs.length = ks.length * 7
  | [], cs, h => by rw [show cs = [] from h]; rfl
  | x :: r, cs, h => by
    obtain ⟨nv, kv, cs', rfl, _, h3⟩ := h
    have := rowS_len h3
    simp [ndl, this]; omega
theorem rowS_keep {ok ok' : Nat → Prop} {a c : World} (hk : ∀ b, ok b → ok' b ∧ c.heap[b]? = a.heap[b]?) : ∀ {ks : List Nd} {cs : List Value}, RowS ok a ks cs → RowS ok' c ks cs
  | [], cs, h => h
  | x :: r, cs, h => by
    obtain ⟨nv, kv, cs', e, h2, h3⟩ := h
    exact ⟨nv, kv, cs', e, ndS_keep hk _ _ _ h2, rowS_keep hk h3⟩
theorem rowS_snoc {ok : Nat → Prop} {w : World} {x : Nd} {nv kv : Value} (hx : NdS ok w x nv kv) : ∀ {ks : List Nd} {cs : List Value}, RowS ok w ks cs → RowS ok w (ks ++ [x]) (cs ++ ndl x nv kv)
  | [], cs, h => by rw [show cs = [] from h]; exact ⟨nv, kv, [], by simp, hx, rfl⟩
  | y :: r, cs, h => by
    obtain ⟨nv', kv', cs', rfl, h2, h3⟩ := h
    exact ⟨nv', kv', cs' ++ ndl x nv kv, by simp, h2, rowS_snoc hx h3⟩
theorem rowS_nds {ok : Nat → Prop} {w : World} {g : Nat} {T : TypeId} {cur : Array Value} (hb : Blk g T cur w) : ∀ {ks : List Nd} {cs : List Value} {off : Nat}, RowS ok w ks cs → (∀ i, i < cs.length → cur[off + i]? = cs[i]?) → NdsS ok w g ks off
  | [], cs, off, h, _ => by rw [NdsS]; trivial
  | x :: r, cs, off, h, hc => by
    obtain ⟨nv, kv, cs', rfl, h2, h3⟩ := h
    have ih := rowS_nds hb (off := off + 7) h3 (fun i hi => by
      have := hc (7 + i) (by simp [ndl]; omega)
      rw [show off + (7 + i) = off + 7 + i by omega] at this
      rw [this, List.getElem?_append_right (by simp [ndl])]
      simp [ndl])
    have h0 : cur[off]? = some (.int .i64 x.kind) := by simpa [ndl] using hc 0 (by simp [ndl])
    have h1 : cur[off + 1]? = some (.int .i64 x.op) := by simpa [ndl] using hc 1 (by simp [ndl])
    have h2' : cur[off + 2]? = some (.int .i64 x.num) := by simpa [ndl] using hc 2 (by simp [ndl])
    have h3' : cur[off + 3]? = some (.string x.str) := by simpa [ndl] using hc 3 (by simp [ndl])
    have h4 : cur[off + 4]? = some (nv) := by simpa [ndl] using hc 4 (by simp [ndl])
    have h5 : cur[off + 5]? = some (kv) := by simpa [ndl] using hc 5 (by simp [ndl])
    have h6 : cur[off + 6]? = some (.int .i64 x.pl) := by simpa [ndl] using hc 6 (by simp [ndl])
    obtain ⟨k, o, n, s, ns, ks, p⟩ := x
    rw [NdsS]
    exact ⟨⟨nv, kv, ⟨(blk_cell hb _).trans h0, (blk_cell hb _).trans h1, (blk_cell hb _).trans h2', (blk_cell hb _).trans h3', (blk_cell hb _).trans h4, (blk_cell hb _).trans h5, (blk_cell hb _).trans h6⟩, h2⟩, ih⟩
/-- nodes in a row of one's own: what they lead to lies in ok, the row itself does not -/
def OutS (ok : Nat → Prop) (w : World) (v : Value) (ks : List Nd) : Prop := ∃ cs, w.ownsRow 0 47 7 v ks.length cs ∧ RowS ok w ks cs ∧ ∀ g, v.ownBlock = some g → ¬ ok g
theorem outS_nil (ok : Nat → Prop) (w : World) : OutS ok w (.slice none 0 0) [] := ⟨[], ⟨rfl, .inl ⟨rfl, rfl⟩⟩, rfl, fun g hg => by simp [Value.ownBlock] at hg⟩
theorem outS_kids {ok : Nat → Prop} {w : World} {v : Value} {ks : List Nd} (h : OutS ok w v ks) : KidsS (fun b => ok b ∨ v.ownBlock = some b) w v ks := by
  obtain ⟨cs, hown, hr, hg⟩ := h
  rcases hown.2 with ⟨h1, h2⟩ | ⟨g, cap, cur, h1, h2, h3, h4, h5, h6, h7⟩
  · have : ks = [] := List.length_eq_zero_iff.1 h2
    subst this
    exact .inl ⟨none, 0, h1, rfl⟩
  · refine .inr ⟨g, 0, cap, h1, .inr (by rw [h1]; rfl), ?_, h4⟩
    have hcl := rowS_len hr
    have hr2 : RowS (fun b => ok b ∨ v.ownBlock = some b) w ks cs := rowS_keep (fun b hb => ⟨.inl hb, rfl⟩) hr
    exact rowS_nds (show Blk g 47 cur w from h3) hr2 fun i hi => by
      rw [Nat.zero_add, ← h7, List.getElem?_take, if_pos (by omega), Array.getElem?_toList]
theorem outS_keep {ok ok' : Nat → Prop} {a c : World} {v : Value} {ks : List Nd} (h : OutS ok a v ks) (hk : ∀ b, ok b → ok' b ∧ c.heap[b]? = a.heap[b]?) (hv : ∀ g, v.ownBlock = some g → c.heap[g]? = a.heap[g]? ∧ ¬ ok' g) : OutS ok' c v ks := by
  obtain ⟨cs, hown, hr, hg⟩ := h
  exact ⟨cs, row_keep hown (fun g hg => (hv g hg).1), rowS_keep hk hr, fun g hg => (hv g hg).2⟩
theorem outS_lt {ok : Nat → Prop} {w : World} {v : Value} {ks : List Nd} {g : Nat} (h : OutS ok w v ks) (hv : v.ownBlock = some g) : g < w.heap.size := by
  obtain ⟨cs, hown, _⟩ := h
  obtain ⟨cur, hc⟩ := row_lt hown hv
  exact blk_lt hc
theorem outS_shape {ok : Nat → Prop} {w : World} {v : Value} {ks : List Nd} (h : OutS ok w v ks) : ∃ ao cap, v = .slice ao ks.length cap := by
  obtain ⟨cs, hown, _⟩ := h
  exact row_shape hown
theorem infoN : ∃ i0, Tryd.prog.info? 47 = some i0 ∧ i0.zero = some (.agg #[.int .i64 0, .int .i64 0, .int .i64 0, .string ⟨#[]⟩, .slice none 0 0, .slice none 0 0, .int .i64 0]) ∧ i0.size = 7 ∧ i0.bytes = 96 :=
  info_parts (show (Tryd.prog.info? 47).map (fun i => (i.zero, i.size, i.bytes)) = some (some (.agg #[.int .i64 0, .int .i64 0, .int .i64 0, .string ⟨#[]⟩, .slice none 0 0, .slice none 0 0, .int .i64 0]), 7, 96) by kernel_rfl)
theorem underN : Tryd.prog.underlying 42 = some (.slice 47) := by kernel_rfl
theorem ndl_one (x : Nd) (a1 a2 : Option Addr) (n1 n2 c1 c2 : Nat) : ∀ u ∈ ndl x (.slice a1 n1 c1) (.slice a2 n2 c2), u.oneCell' = true := by
  intro u hu
  simp only [ndl, List.mem_cons, List.not_mem_nil, or_false] at hu
  rcases hu with rfl | rfl | rfl | rfl | rfl | rfl | rfl <;> rfl
/-- one node more: x is of ok, the row's block may be a new one -/
theorem node_app {ops : Array Oper} {rest : List Oper} {o : Oper} {a : Act} {Q : Exit → Act → World → Prop} {w : World} (hgd : o.guard = none) (s x : Operand)
    (ho : o.op = .call { callee := .builtin .append, args := #[s, x], argTypes := #[42, 42] })
    (ok : Nat → Prop) (ks : List Nd) (y : Nd) (a1 a2 : Option Addr) (c1 c2 : Nat) (v : Value) (hs : a.eval s = v) (hR : OutS ok w v ks) (hY : NdS ok w y (.slice a1 y.names.length c1) (.slice a2 y.kids.length c2)) (hup : ∀ b, ok b → b < w.heap.size)
    (nb : Nat) (hx : a.eval x = .slice (some ⟨nb, 0, none⟩) 1 1) (hnb : nb = w.heap.size) (hlen : ks.length ≤ 1000000)
    (h : ∀ g cap w', OutS ok w' (.slice (some ⟨g, 0, none⟩) (ks.length + 1) cap) (ks ++ [y]) → w.grownBy w' v.ownBlock → (v.ownBlock = some g ∨ w.heap.size ≤ g) → g < w'.heap.size → wpList Tryd.prog ops Q rest (a.put o.dst (.slice (some ⟨g, 0, none⟩) (ks.length + 1) cap)) w') :
    wpList Tryd.prog ops Q (o :: rest) a (w.alloc (.cells #[.int .i64 y.kind, .int .i64 y.op, .int .i64 y.num, .string y.str, .slice a1 y.names.length c1, .slice a2 y.kids.length c2, .int .i64 y.pl] 47)) := by
  subst hnb
  obtain ⟨i0, hi, hz0, hz1, hz2⟩ := infoN
  obtain ⟨cs, hown, hr, hg⟩ := hR
  have A := (Below.refl w.heap.size w).alloc (Nat.le_refl _) (.cells #[.int .i64 y.kind, .int .i64 y.op, .int .i64 y.num, .string y.str, .slice a1 y.names.length c1, .slice a2 y.kids.length c2, .int .i64 y.pl] 47)
  refine wpList_append_lies _ hgd s x 42 ho 0 47 i0 _ 7 96 underN hi hz0 hz1 hz2 rfl (by decide) v ks.length cs hs (row_keep hown (fun g hv => A.block g (by obtain ⟨cur, hc⟩ := row_lt hown hv; exact blk_lt hc))) ⟨w.heap.size, 0, none⟩ 1 1 (ndl y (.slice a1 y.names.length c1) (.slice a2 y.kids.length c2)) hx rfl (World.news_of_block (heap_alloc_new w _)) (ndl_one _ _ _ _ _ _ _) (by decide) (by unfold maxLen; omega) (by omega) (Nat.zero_le _) (w.heap.size + 1) (by simp) ?_
  intro g cap w' hown' hgrow hat hlt
  have hsz := hgrow.size
  simp only [World.size_alloc] at hsz
  have keep : ∀ k, ok k → ok k ∧ w'.heap[k]? = w.heap[k]? := fun k hk => ⟨hk, by
    have h1 := hup k hk
    rw [hgrow.block k (by simp; omega) (fun e => hg k e.symm hk), A.block k h1]⟩
  refine h g cap w' ⟨_, by rw [List.length_append]; exact hown', rowS_snoc (ndS_keep keep _ _ _ hY) (rowS_keep keep hr), fun k hk => ?_⟩ ?_ ?_ hlt
  · simp [Value.ownBlock] at hk
    subst hk
    rcases hat with h1 | h1
    · exact hg _ h1
    · intro h2
      have := hup _ h2
      omega
  · refine ⟨hgrow.os.trans A.os, hgrow.tape.trans A.tape, hgrow.output.trans A.output, Nat.le_trans A.size hgrow.size, fun k hk hne => ?_⟩
    rw [hgrow.block k (by simp; omega) hne, A.block k hk]
  · rcases hat with h1 | h1
    · exact .inl h1
    · exact .inr (by omega)

end Go.Proofs.YtgdbaceehpcgbaaDoor

namespace Go.Proofs.YtgdbaceehpcgbaaDoor
set_option linter.unusedSimpArgs false
open Go.RowKit

/-- block m is the map of the names l -/
def NmAt (m : Nat) (l : List ByteArray) (w : World) : Prop := MapN m (idxF l) l.length w
theorem nmAt_new (w : World) : NmAt w.heap.size [] (w.alloc (.map #[] 0)) := mapN_new w
theorem idxF_snoc {l : List ByteArray} {s : ByteArray} (h : idxN l s = none) (y : ByteArray) : putF (idxF l) s (l.length : Int) y = idxF (l ++ [s]) y := by
  unfold putF idxF
  rw [idxN_snoc]
  by_cases hy : y = s
  · subst hy
    rw [if_pos rfl, h]
    simp
  · rw [if_neg hy]
    rcases Option.eq_none_or_eq_some (idxN l y) with h1 | ⟨j, h1⟩
    · rw [h1]; simp [show ¬ s = y from fun e => hy e.symm]
    · rw [h1]; simp
theorem idxF_some (l : List ByteArray) (s : ByteArray) : (idxF l s).isSome = (idxN l s).isSome := by unfold idxF; cases idxN l s <;> rfl
/-- names that were declared, or else nothing -/
def Decl (m : Nat) (x : Rz (List ByteArray)) (w : World) : Prop := match x with | .ok l => NmAt m l w | .bad _ _ => True
/-- a fault as a value -/
def fltV {α : Type} (x : Rz α) : Value := match x with | .ok _ => .agg #[.int .i64 0, .int .i64 0] | .bad p e => .agg #[.int .i64 p, .int .i64 e]
theorem declR_len {l l' : List ByteArray} {s : ByteArray} {p : Int} (hl : l.length ≤ 24) (h : declR l s p = .ok l') : l'.length ≤ 24 := by
  unfold declR at h
  split at h
  · rename_i h0
    cases h
    unfold declE at h0
    rw [List.length_append]
    split at h0
    · cases h0
    · split at h0
      · cases h0
      · simp; omega
  · cases h
theorem nmAt_keep {m : Nat} {l : List ByteArray} {a c : World} (h : NmAt m l a) (hk : c.heap[m]? = a.heap[m]?) : NmAt m l c := mapN_keep h hk
theorem nmAt_lt {m : Nat} {l : List ByteArray} {w : World} (h : NmAt m l w) : m < w.heap.size := mapN_lt h
theorem strs_cellAt {B : Nat} {ao : Option Addr} {cap j : Nat} {l : List ByteArray} {s : ByteArray} {w : World} (h : StrsIn B (.slice ao l.length cap) l w) (hj : l[j]? = some s) : ∃ b off, ao = some ⟨b, off, none⟩ ∧ b < B ∧ w.cell? ⟨b, off + j, none⟩ = some (.string s) := by
  have hl : j < l.length := (List.getElem?_eq_some_iff.1 hj).1
  obtain ⟨ao', cap', e, h2⟩ := strsIn_cases h
  injection e with e1 e2 e3
  subst e1
  rcases h2 with rfl | ⟨b, off, rfl, hb, hs⟩
  · simp at hl
  · refine ⟨b, off, rfl, hb, ?_⟩
    rw [hs j hl]
    have := (List.getElem?_eq_some_iff.1 hj).2
    rw [this]

theorem kid_node {B : Nat} {ao : Option Addr} {cap j : Nat} {l : List Nd} {x : Nd} {w : World} (h : KidsIn B w (.slice ao l.length cap) l) (hj : l[j]? = some x) :
    ∃ b off a1 c1 a2 c2, ao = some ⟨b, off, none⟩ ∧ b < B ∧ NodeAt b (off + j * 7) x.kind x.op x.num x.str (.slice a1 x.names.length c1) (.slice a2 x.kids.length c2) x.pl w ∧ NdIn B w x (.slice a1 x.names.length c1) (.slice a2 x.kids.length c2) := by
  have hl : j < l.length := (List.getElem?_eq_some_iff.1 hj).1
  obtain ⟨ao', cap', e, h2⟩ := kidsIn_cases h
  injection e with e1 e2 e3
  subst e1
  rcases h2 with rfl | ⟨b, off, rfl, hb, hs⟩
  · simp at hl
  · obtain ⟨nv, kv, h3, h4⟩ := ndsAt_get hs j hl
    have e5 := (List.getElem?_eq_some_iff.1 hj).2
    rw [e5] at h3 h4
    obtain ⟨a1, c1, a2, c2, rfl, rfl⟩ := ndIn_shape h4
    exact ⟨b, off, a1, c1, a2, c2, rfl, hb, h3, h4⟩
theorem countL_len : ∀ l : List Nd, l.length ≤ countL l
  | [] => by simp [countL]
  | x :: r => by have := countL_len r; have := countN_pos x; simp only [countL, List.length_cons]; omega
theorem count_kids (x : Nd) : x.kids.length ≤ countN x := by
  obtain ⟨k, o, n, s, ns, ks, p⟩ := x
  have := countL_len ks
  simp only [Nd.kids, countN]; omega
end Go.Proofs.YtgdbaceehpcgbaaDoor

namespace Go.Proofs.YtgdbaceehpcgbaaDoor
set_option linter.unusedSimpArgs false
open Go.RowKit

/-- the locals: none at all, or a map -/
def LoAt (v : Value) (lo : List ByteArray) (w : World) : Prop := (v = .map none ∧ lo = []) ∨ ∃ b, v = .map (some b) ∧ NmAt b lo w
theorem gm_rlook {T : TypeId} (ht : Tryd.prog.underlying T = some (.map 9 3)) {m c : Nat} {f : ByteArray → Option Int} {s : ByteArray} {w : World} (hM : MapN m f c w) (hs : s.size ≤ maxLen) :
    (Instr.lookup T (.map (some m)) (.string s) true).run Tryd.prog w = .ok (.tuple #[.int .i64 ((f s).getD 0), .bool (f s).isSome]) w := by
  obtain ⟨D, ho, hc, hf⟩ := hM
  obtain ⟨h1, h2⟩ := hf s hs
  obtain ⟨v, ps, hrun, hv⟩ := ho.look_ok keyS ht (zeroIn _) (plainElem_int underIn (by decide)) (keyOf_lit hs)
  obtain ⟨c', rfl, hc', _⟩ := plainElem_int_inv underIn hv
  have hat : D.atKey (lit s) (.lit (.int .i64 0)) = .lit (.int .i64 c') := congrArg Prod.fst hc'
  have e : c' = (f s).getD 0 := by
    cases hfs : f s with
    | none =>
      rw [hfs] at h1
      rw [Maps.atKey_of_not_has h1] at hat
      have : (0 : Int) = c' := by simpa using hat
      rw [← this]; rfl
    | some i =>
      have h3 := (h2 i hfs).symm.trans hat
      have : i = c' := by simpa using h3
      rw [← this]; rfl
  rw [hrun, e, h1]
theorem loAt_keep {v : Value} {lo : List ByteArray} {a c : World} (h : LoAt v lo a) (hk : ∀ b, v = .map (some b) → c.heap[b]? = a.heap[b]?) : LoAt v lo c := by
  rcases h with h | ⟨b, e, h⟩
  · exact .inl h
  · exact .inr ⟨b, e, nmAt_keep h (hk b e)⟩
theorem loAt_on {v : Value} {lo : List ByteArray} {a c : World} (h : LoAt v lo a) (k : Below a.heap.size a c) : LoAt v lo c := by
  rcases h with h | ⟨b, e, h⟩
  · exact .inl h
  · exact .inr ⟨b, e, nmAt_keep h (k.block b (nmAt_lt h))⟩
/-- a node without names and kids, as a value -/
def bareV (k i : Int) : Value := .agg #[.int .i64 k, .int .i64 0, .int .i64 i, .string ⟨#[]⟩, .slice none 0 0, .slice none 0 0, .int .i64 0]
def findV (p : Int) : Option (Int × Nat) → Value
  | some (k, i) => .tuple #[bareV k i, .agg #[.int .i64 0, .int .i64 0]]
  | none => .tuple #[bareV 0 0, .agg #[.int .i64 p, .int .i64 14]]

end Go.Proofs.YtgdbaceehpcgbaaDoor

namespace Go.Proofs.YtgdbaceehpcgbaaDoor
open Go.RowKit

theorem ret_nd7 {fn : Func} {t : Tmp} (h : fn.results = #[.cell t 47]) {tmps : Array Value} {g : Nat} {w : World} {v0 v1 v2 v3 v4 v5 v6 : Value} (ht : tmps.getD t undef = .pointer (some ⟨g, 0, none⟩)) (hb : Blk g 47 #[v0, v1, v2, v3, v4, v5, v6] w) :
    (results fn tmps).run Tryd.prog w = .ok (.agg #[v0, v1, v2, v3, v4, v5, v6]) w := by
  rw [Array.getD_eq_getD_getElem?] at ht
  have c0 := blk_cell hb 0
  have c1 := blk_cell hb 1
  have c2 := blk_cell hb 2
  have c3 := blk_cell hb 3
  have c4 := blk_cell hb 4
  have c5 := blk_cell hb 5
  have c6 := blk_cell hb 6
  simp at c0 c1 c2 c3 c4 c5 c6
  simp [results, h, ht, go_sem, asAddr, c0, c1, c2, c3, c4, c5, c6]

end Go.Proofs.YtgdbaceehpcgbaaDoor
