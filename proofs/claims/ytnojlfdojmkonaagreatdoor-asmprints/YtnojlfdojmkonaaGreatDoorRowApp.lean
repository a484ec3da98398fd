/- One element more at the end of a row of one's own: append(row, x). -/
import Derived.Test.YtnojlfdojmkonaaGreatDoorMapG
namespace Go.Proofs.YtnojlfdojmkonaaGreatDoor
open Go.RowKit

/-- what a row's element type is: cells, bytes -/
def Elem (sT eT : TypeId) (z bytes : Nat) : Prop := Tryz.prog.underlying sT = some (.slice eT) ∧ ∃ i z0, Tryz.prog.info? eT = some i ∧ i.zero = some z0 ∧ z0.cells.size = z ∧ i.size = z ∧ i.bytes = bytes
theorem elem_of {sT eT : TypeId} {z bytes : Nat} {z0 : Value} (h1 : Tryz.prog.underlying sT = some (.slice eT)) (h2 : (Tryz.prog.info? eT).map (fun i => (i.zero, i.size, i.bytes)) = some (some z0, z, bytes)) (h3 : z0.cells.size = z) : Elem sT eT z bytes := by
  obtain ⟨i0, a, b, c, d⟩ := info_parts h2
  exact ⟨h1, i0, z0, a, b, h3, c, d⟩
theorem row_app_wp {sT eT : TypeId} {z bytes : Nat} (hE : Elem sT eT z bytes) (hz : 0 < z) (hby : bytes ≤ 1000) {o : Oper} {a : Act} {K : Act → World → Prop} {Q : Exit → Act → World → Prop} {w W : World} (s x : Operand)
    (ho : o.op = .call { callee := .builtin .append, args := #[s, x], argTypes := #[sT, sT] }) (n : Nat) (xs news : List Value) (hnl : news.length = z) (one : ∀ u ∈ news, u.oneCell' = true) (v : Value) (hs : a.eval s = v) (hown : w.ownsRow 0 eT z v n xs)
    (nb : Nat) (hx : a.eval x = .slice (some ⟨nb, 0, none⟩) 1 1) (hnb : nb = w.heap.size) (hlen : n ≤ 1000000) (hW : W = w.alloc (.cells news.toArray eT) ∨ W = (w.alloc (.cells news.toArray eT)).drew ∨ W = w.drew.alloc (.cells news.toArray eT))
    (h : ∀ g cap w', w'.ownsRow 0 eT z (.slice (some ⟨g, 0, none⟩) (n + 1) cap) (n + 1) (xs ++ news) → w.grownBy w' v.ownBlock → (v.ownBlock = some g ∨ w.heap.size ≤ g) → K (a.put o.dst (.slice (some ⟨g, 0, none⟩) (n + 1) cap)) w') : o.wp Tryz.prog a W K Q := by
  subst hnb
  obtain ⟨hu, i0, z0, hi, hz0, hzc, hz1, hz2⟩ := hE
  have A : Below w.heap.size w W := by
    rcases hW with rfl | rfl | rfl
    · exact (Below.refl w.heap.size w).alloc (Nat.le_refl _) _
    · exact ((Below.refl w.heap.size w).alloc (Nat.le_refl _) _).drew
    · exact (Below.refl w.heap.size w).drew.alloc (Nat.le_refl _) _
  have hsz : W.heap.size = w.heap.size + 1 := by rcases hW with rfl | rfl | rfl <;> simp
  have hnew : W.heap[w.heap.size]? = some (.cells news.toArray eT (0, 0)) := by
    rcases hW with rfl | rfl | rfl
    · exact heap_alloc_new w _
    · exact heap_alloc_new w _
    · exact heap_alloc_new w.drew _
  have hb : (n + 1) * bytes ≤ 140737488355328 := by
    have h1 : (n + 1) * bytes ≤ 1000001 * 1000 := Nat.mul_le_mul (by omega) hby
    omega
  refine wp_append_lies _ s x sT ho 0 eT i0 z0 z bytes hu hi hz0 hz1 hz2 hzc hz v n xs hs (row_keep hown (fun g hg => by
    obtain ⟨cur, hc⟩ := row_lt hown hg
    exact A.block g (blk_lt hc))) ⟨w.heap.size, 0, none⟩ 1 1 news hx (by omega) (World.news_of_block hnew) one (by decide) (by unfold maxLen; omega) hb (Nat.zero_le _) (w.heap.size + 1) hsz ?_
  intro g cap w' hown' hgrow hat hlt
  refine h g cap w' hown' ?_ ?_
  · refine ⟨hgrow.os.trans A.os, hgrow.tape.trans A.tape, hgrow.output.trans A.output, Nat.le_trans A.size hgrow.size, fun k hk hne => ?_⟩
    rw [hgrow.block k (by omega) hne, A.block k hk]
  · rcases hat with h1 | h1
    · exact .inl h1
    · exact .inr (by omega)
/-- in a plain region -/
theorem row_app {sT eT : TypeId} {z bytes : Nat} (hE : Elem sT eT z bytes) (hz : 0 < z) (hby : bytes ≤ 1000) {ops : Array Oper} {rest : List Oper} {o : Oper} {a : Act} {Q : Exit → Act → World → Prop} {w : World} (hgd : o.guard = none) (s x : Operand)
    (ho : o.op = .call { callee := .builtin .append, args := #[s, x], argTypes := #[sT, sT] }) (n : Nat) (xs news : List Value) (hnl : news.length = z) (one : ∀ u ∈ news, u.oneCell' = true) (v : Value) (hs : a.eval s = v) (hown : w.ownsRow 0 eT z v n xs)
    (nb : Nat) (hx : a.eval x = .slice (some ⟨nb, 0, none⟩) 1 1) (hnb : nb = w.heap.size) (hlen : n ≤ 1000000)
    (h : ∀ g cap w', w'.ownsRow 0 eT z (.slice (some ⟨g, 0, none⟩) (n + 1) cap) (n + 1) (xs ++ news) → w.grownBy w' v.ownBlock → (v.ownBlock = some g ∨ w.heap.size ≤ g) → wpList Tryz.prog ops Q rest (a.put o.dst (.slice (some ⟨g, 0, none⟩) (n + 1) cap)) w') :
    wpList Tryz.prog ops Q (o :: rest) a (w.alloc (.cells news.toArray eT)) :=
  wpList_plain hgd fun _ hK' => row_app_wp hE hz hby s x ho n xs news hnl one v hs hown nb hx hnb hlen (.inl rfl) fun g cap w' h1 h2 h3 => hK' _ _ (h g cap w' h1 h2 h3)
/-- as a step of a region that draws -/
theorem row_app_step {sT eT : TypeId} {z bytes : Nat} (hE : Elem sT eT z bytes) (hz : 0 < z) (hby : bytes ≤ 1000) {ops : Array Oper} {o : Oper} {a : Act} {K : Act → World → Prop} {Q : Exit → Act → World → Prop} {E : Prop} {w W : World} (hgd : o.guard = none) (s x : Operand)
    (ho : o.op = .call { callee := .builtin .append, args := #[s, x], argTypes := #[sT, sT] }) (n : Nat) (xs news : List Value) (hnl : news.length = z) (one : ∀ u ∈ news, u.oneCell' = true) (v : Value) (hs : a.eval s = v) (hown : w.ownsRow 0 eT z v n xs)
    (nb : Nat) (hx : a.eval x = .slice (some ⟨nb, 0, none⟩) 1 1) (hnb : nb = w.heap.size) (hlen : n ≤ 1000000) (hW : W = w.alloc (.cells news.toArray eT) ∨ W = (w.alloc (.cells news.toArray eT)).drew ∨ W = w.drew.alloc (.cells news.toArray eT))
    (h : ∀ g cap w', w'.ownsRow 0 eT z (.slice (some ⟨g, 0, none⟩) (n + 1) cap) (n + 1) (xs ++ news) → w.grownBy w' v.ownBlock → (v.ownBlock = some g ∨ w.heap.size ≤ g) → K (a.put o.dst (.slice (some ⟨g, 0, none⟩) (n + 1) cap)) w') :
    if Region.wanted o (yielded ops a.tmps) = true then Oper.wp Tryz.prog o a W K Q else E := by
  rw [if_pos (by simp [Region.wanted, hgd])]
  exact row_app_wp hE hz hby s x ho n xs news hnl one v hs hown nb hx hnb hlen hW h

end Go.Proofs.YtnojlfdojmkonaaGreatDoor
