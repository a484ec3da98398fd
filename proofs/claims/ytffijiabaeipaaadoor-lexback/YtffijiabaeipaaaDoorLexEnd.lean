/- Tokens that come back: the last steps. -/
import Derived.Test.YtffijiabaeipaaaDoorLexSame
import Derived.Test.YtffijiabaeipaaaDoorLexPure
namespace Go.Proofs.YtffijiabaeipaaaDoor
open Go.RowKit

theorem tokens_long (s : ByteArray) (h : 2000 < s.size) (w : World) :
    Calls Tryd.prog 8 #[.string s] w fun e w' => e = .returned (.tuple #[.slice none 0 0, .int .i64 0, .int .i64 3]) ∧ w = w' := by
  go_enter Tryd.func8, Tryd.ntmps8
  go_wp2
  go_ret3
  exact ⟨rfl, rfl⟩

theorem wp_rapp_if {ops : Array Oper} {rest : List Oper} {o : Oper} {a : Act} {Q : Exit → Act → World → Prop} {w : World} (hw : Region.wanted o (yielded ops a.tmps) = true) (s x : Operand)
    (ho : o.op = .call { callee := .builtin .append, args := #[s, x], argTypes := #[27, 27] })
    (B : Nat) (l : List Tok) (t : Tok) (cs : Array Value) (hcs : cs = t.cells.toArray) (v : Value) (hs : a.eval s = v) (hown : Row 38 B v l w)
    (nb : Nat) (hx : a.eval x = .slice (some ⟨nb, 0, none⟩) 1 1) (hnb : nb = w.heap.size) (hlen : l.length ≤ 1000000) (hB : B ≤ w.heap.size)
    (h : ∀ v' w', Row 38 B v' (l ++ [t]) w' → Below B w w' → (∀ g, g < w.heap.size → some g ≠ v.ownBlock → w'.heap[g]? = w.heap[g]?) → wpList Tryd.prog ops Q rest (a.put o.dst v') w') :
    wpList Tryd.prog ops Q (o :: rest) a (w.alloc (.cells cs 38)) := by
  subst hnb
  obtain ⟨i0, hi, hz0, hz1, hz2⟩ := infoR
  refine BigFrame.wpList_want hw fun K hK => wp_append_own _ s x 27 ho B 38 i0 _ 4 40 underR hi hz0 hz1 hz2 rfl (by decide) v _ _ hs (World.ownsRow.alloc hown _) ⟨w.heap.size, 0, none⟩ 1 1 t.cells hx rfl ?_ ?_ (by unfold maxLen; omega) (by omega) (by simp; omega) (fun v' w2 hown' hgrow _ => hK _ _ ?_)
  · intro j u hj
    have e : (⟨w.heap.size, 0, none⟩ : Addr).add j = ⟨w.heap.size, j, none⟩ := by unfold Addr.add; split <;> simp_all
    rw [e, World.cell?_alloc_new, hcs]
    simpa using hj
  · intro u hu
    exact tokCells_one [t] u (by simpa [tokCells] using hu)
  · refine h v' w2 ?_ ?_ ?_
    · unfold Row
      rw [tokCells_append, List.length_append]
      simpa [tokCells] using hown'
    · exact ((Below.refl B w).alloc hB _).grown hgrow (by simp; omega) (fun k hk => (hown.lt k hk).1)
    · intro g hg hne
      rw [hgrow.block g (by simp; omega) hne]
      exact Below.heap_alloc _ _ _ hg

theorem alike_of {a b : List Tok} (h : a.map bare = b.map bare) : a.length = b.length ∧ ∀ (i : Nat) (h : i < a.length) (h' : i < b.length), a[i].kind = b[i].kind ∧ a[i].text = b[i].text ∧ a[i].num = b[i].num ∧ (false = true → a[i].pl = b[i].pl) := by
  refine ⟨by simpa using congrArg List.length h, fun i h1 h2 => ?_⟩
  have := congrArg (fun l => l[i]?) h
  simp [h1, h2, bare] at this
  exact ⟨this.1, this.2.1, this.2.2, fun h => by cases h⟩

theorem row_low {T : TypeId} {B : Nat} {v : Value} {l : List Tok} {w : World} (h : Row T B v l w) : ∀ g, v.ownBlock = some g → B ≤ g ∧ g < w.heap.size := by
  intro g hg
  rcases h.2 with ⟨h1, _⟩ | ⟨g', cap, cur, h1, h2, h3, _⟩
  · rw [h1] at hg; cases hg
  · rw [h1] at hg
    obtain rfl : g' = g := by simpa [Value.ownBlock] using hg
    refine ⟨h2, ?_⟩
    rcases Nat.lt_or_ge g' w.heap.size with h | h
    · exact h
    · rw [Array.getElem?_eq_none h] at h3; cases h3
theorem row_keep {T : TypeId} {B : Nat} {v : Value} {l : List Tok} {a b : World} {o : Option Nat} (h : Row T B v l a) (keep : ∀ g, g < a.heap.size → some g ≠ o → b.heap[g]? = a.heap[g]?) (hne : ∀ g, v.ownBlock = some g → some g ≠ o) : Row T B v l b := by
  refine ⟨h.1, ?_⟩
  have hl := row_low h
  rcases h.2 with h1 | ⟨g, cap, cur, h1, h2, h3, h4⟩
  · exact .inl h1
  · refine .inr ⟨g, cap, cur, h1, h2, ?_, h4⟩
    have hv : v.ownBlock = some g := by rw [h1]; rfl
    rw [keep g (hl g hv).2 (hne g hv)]
    exact h3

end Go.Proofs.YtffijiabaeipaaaDoor
