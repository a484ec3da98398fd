/- A node more in a row, where its block is laid ahead. -/
import Derived.Test.YtijbiedblahmhaaDoorPsRow
import Derived.Test.YtijbiedblahmhaaDoorPsBlock
import Derived.Deep.AppendLies
namespace Go.Proofs.YtijbiedblahmhaaDoor
open Go.RowKit

theorem wp_napp {ops : Array Oper} {rest : List Oper} {o : Oper} {a : Act} {Q : Exit → Act → World → Prop} {w : World} (hgd : o.guard = none) (s x : Operand)
    (ho : o.op = .call { callee := .builtin .append, args := #[s, x], argTypes := #[24, 24] })
    (lo : Nat) (ok : Nat → Prop) (ks : List Nd) (y : Nd) (b1 b2 : Option Addr) (p1 p2 : Nat) (cs : Array Value) (hcs : cs = ndc y (.slice b1 y.names.length p1) (.slice b2 y.kids.length p2)) (v : Value) (hs : a.eval s = v) (hR : KRow lo ok w v ks)
    (hY : NdW (Els ok v w) w y (.slice b1 y.names.length p1) (.slice b2 y.kids.length p2)) (nb : Nat) (hx : a.eval x = .slice (some ⟨nb, 0, none⟩) 1 1) (hnb : nb = w.heap.size) (hlen : ks.length ≤ 1000) (hlo : lo ≤ w.heap.size) (hup : ∀ k, w.heap.size < k → ok k)
    (h : ∀ v' w', KRow lo ok w' v' (ks ++ [y]) → (w.alloc (.cells cs 26)).grownBy w' v.ownBlock → wpList Tryd.prog ops Q rest (a.put o.dst v') w') :
    wpList Tryd.prog ops Q (o :: rest) a (w.alloc (.cells cs 26)) := by
  subst hnb hcs
  obtain ⟨i0, hi, hz0, hz1, hz2⟩ := infoN
  obtain ⟨xs, hown, hr, hg⟩ := hR
  refine wpList_append_lies _ hgd s x 24 ho lo 26 i0 _ 7 96 underN hi hz0 hz1 hz2 rfl (by decide) v _ _ hs (World.ownsRow.alloc hown _) ⟨w.heap.size, 0, none⟩ 1 1 (ndl y (.slice b1 y.names.length p1) (.slice b2 y.kids.length p2)) hx rfl ?_ ?_ (by decide) (by unfold maxLen; omega) (by omega) (by simp; omega) (w.heap.size + 1) (by simp) ?_
  · intro j u hj
    have e : (⟨w.heap.size, 0, none⟩ : Addr).add j = ⟨w.heap.size, j, none⟩ := by unfold Addr.add; split <;> simp_all
    rw [e, World.cell?_alloc_new]
    simpa [ndc, ndl] using hj
  · intro u hu
    simp only [ndl, List.mem_cons, List.not_mem_nil, or_false] at hu
    rcases hu with rfl | rfl | rfl | rfl | rfl | rfl | rfl <;> rfl
  · intro g cap w' hown' hgrow hat hlt
    have hsz := hgrow.size
    simp only [World.size_alloc] at hsz
    have keep : ∀ k, Els ok v w k → Els ok (.slice (some ⟨g, 0, none⟩) (ks.length + 1) cap) w' k ∧ w'.heap[k]? = w.heap[k]? := by
      rintro k ⟨h1, h2, h3⟩
      have hkg : k ≠ g := by
        rintro rfl
        rcases hat with h | h
        · exact h3 h.symm
        · omega
      have h4 := hgrow.block k (by simp; omega) h3
      have h5 := ((Below.refl w.heap.size w).alloc (Nat.le_refl _) (.cells (ndc y (.slice b1 y.names.length p1) (.slice b2 y.kids.length p2)) 26)).block k h2
      exact ⟨⟨h1, by omega, by simp [Value.ownBlock, hkg]⟩, h4.trans h5⟩
    refine h _ w' ⟨xs ++ ndl y (.slice b1 y.names.length p1) (.slice b2 y.kids.length p2), ?_, rowN_snoc (ndW_keep keep _ _ _ hY) (rowN_keep keep hr), fun k hk => ?_⟩ hgrow
    · simpa using hown'
    · simp [Value.ownBlock] at hk
      subst hk
      rcases hat with h | h
      · exact hg _ h
      · exact hup _ (by omega)
/-- up to the parser's block all is as it was -/
theorem pst_low {P : Nat} {L l : List Tok} {a c : World} (h : PSt P L a l) (k : Below (P + 1) a c) : PSt P L c l := by
  have hlt := h.lt
  obtain ⟨R, cap, h1, h2, h3, h4⟩ := h.mem
  refine ⟨h.ok, h.suf, h.ne, ok_on h.sg ⟨k.os, k.tape, k.output, k.size, fun b hb => k.block b (by omega)⟩, R, cap, h1, h2, ?_, (k.block P (by omega)).trans h4⟩
  intro i hi
  obtain ⟨g1, g2, g3, g4⟩ := h3 i hi
  have hb := k.block R (by omega)
  exact ⟨(World.cell?_of_block (w := a) hb).trans g1, (World.cell?_of_block (w := a) hb).trans g2, (World.cell?_of_block (w := a) hb).trans g3, (World.cell?_of_block (w := a) hb).trans g4⟩
theorem grown_low {B : Nat} {a b : World} {row : Option Nat} (h : a.grownBy b row) (hB : B ≤ a.heap.size) (hr : ∀ k, row = some k → B ≤ k) : Below B a b :=
  ⟨h.os, h.tape, h.output, h.size, fun k hk => h.block k (by omega) (fun e => by have := hr k e.symm; omega)⟩

end Go.Proofs.YtijbiedblahmhaaDoor
