/- Bytes of the call's own that grow. -/
import Derived.Test.YtnojlfdojmkonaaGreatDoorTxtPlain
import Derived.Test.YtnojlfdojmkonaaGreatDoorBld
import Derived.Laws.BytesArg
import Derived.Deep.RegionLaw
namespace Go.Proofs.YtnojlfdojmkonaaGreatDoor
open Go.RowKit

/-- a slice of bytes of the call's own: it holds l -/
def Owns (B : Nat) (v : Value) (l : List UInt8) (w : World) : Prop := w.ownsRow B 5 1 v l.length (Lib.byteCells l)

/-- append of bytes that were written out, onto a slice of the call's own -/
theorem wp_app {ops : Array Oper} {rest : List Oper} {o : Oper} {a : Act} {Q : Exit → Act → World → Prop} {w : World} (hgd : o.guard = none) (s x : Operand)
    (ho : o.op = .call { callee := .builtin .append, args := #[s, x], argTypes := #[48, 48] })
    (B : Nat) (l news : List UInt8) (cs : Array Value) (n : Nat) (hn : news.length = n) (hcs : cs = (Lib.byteCells news).toArray) (v : Value) (hs : a.eval s = v) (hown : Owns B v l w)
    (hx : a.eval x = .slice (some ⟨w.heap.size, 0, none⟩) n n) (hlen : l.length + n ≤ 140737488355328) (hB : B ≤ w.heap.size) (h0 : 0 < n)
    (h : ∀ g cap w', Owns B (.slice (some ⟨g, 0, none⟩) (l.length + n) cap) (l ++ news) w' → Below B w w' → wpList Tryz.prog ops Q rest (a.put o.dst (.slice (some ⟨g, 0, none⟩) (l.length + n) cap)) w') :
    wpList Tryz.prog ops Q (o :: rest) a (w.alloc (.cells cs 5)) := by
  obtain ⟨i0, hi, hz0, hz1, hz2⟩ := info8
  refine wpList_append_own _ hgd s x 48 ho B 5 i0 (.int .u8 0) 1 1 under_bytes hi hz0 hz1 hz2 rfl (by decide) v _ _ hs (World.ownsRow.alloc hown _) ⟨w.heap.size, 0, none⟩ n n (Lib.byteCells news) hx (by rw [Lib.byteCells_length]; omega) ?_ ?_ (by unfold maxLen; omega) (by omega) (by simp; omega) ?_
  · intro j u hj
    have e : (⟨w.heap.size, 0, none⟩ : Addr).add j = ⟨w.heap.size, j, none⟩ := by unfold Addr.add; split <;> simp_all
    rw [e, World.cell?_alloc_new, hcs]
    simpa using hj
  · intro u hu
    simp [Lib.byteCells] at hu
    obtain ⟨b, _, rfl⟩ := hu
    rfl
  · intro v' w2 hown' hgrow _
    obtain ⟨g, cap, rfl⟩ : ∃ g cap, v' = .slice (some ⟨g, 0, none⟩) (l.length + n) cap := by
      rcases hown'.2 with ⟨_, h0⟩ | ⟨g, cap, cur, hv, _⟩
      · omega
      · exact ⟨g, cap, hv⟩
    refine h g cap w2 ?_ ?_
    · unfold Owns
      rw [Lib.byteCells_append, List.length_append, hn]
      exact hown'
    · exact ((Below.refl B w).alloc hB _).grown hgrow (by simp; omega) (fun k hk => (hown.lt k hk).1)

/-- the same, as one step of a region that draws its order -/
theorem step_app {ops : Array Oper} {o : Oper} {a : Act} {w : World} {K : Act → World → Prop} {Q : Exit → Act → World → Prop} {E : Prop} (hgd : o.guard = none) (s x : Operand)
    (ho : o.op = .call { callee := .builtin .append, args := #[s, x], argTypes := #[48, 48] })
    (B : Nat) (l news : List UInt8) (cs : Array Value) (n : Nat) (hn : news.length = n) (hcs : cs = (Lib.byteCells news).toArray) (v : Value) (hs : a.eval s = v) (hown : Owns B v l w)
    (hx : a.eval x = .slice (some ⟨w.heap.size, 0, none⟩) n n) (hlen : l.length + n ≤ 140737488355328) (hB : B ≤ w.heap.size) (h0 : 0 < n)
    (h : ∀ g cap w', Owns B (.slice (some ⟨g, 0, none⟩) (l.length + n) cap) (l ++ news) w' → Below B w w' → K (a.put o.dst (.slice (some ⟨g, 0, none⟩) (l.length + n) cap)) w') :
    if Region.wanted o (yielded ops a.tmps) = true then Oper.wp Tryz.prog o a (w.alloc (.cells cs 5)).drew K Q else E := by
  have hw : Region.wanted o (yielded ops a.tmps) = true := by simp [Region.wanted, hgd]
  rw [if_pos hw]
  obtain ⟨i0, hi, hz0, hz1, hz2⟩ := info8
  have hown1 : (w.alloc (.cells cs 5)).drew.ownsRow B 5 1 v l.length (Lib.byteCells l) := World.ownsRow.alloc hown _
  refine wp_append_own _ s x 48 ho B 5 i0 (.int .u8 0) 1 1 under_bytes hi hz0 hz1 hz2 rfl (by decide) v _ _ hs hown1 ⟨w.heap.size, 0, none⟩ n n (Lib.byteCells news) hx (by rw [Lib.byteCells_length]; omega) ?_ ?_ (by unfold maxLen; omega) (by omega) (by show B ≤ (w.alloc (.cells cs 5)).heap.size; simp; omega) ?_
  · intro j u hj
    have e : (⟨w.heap.size, 0, none⟩ : Addr).add j = ⟨w.heap.size, j, none⟩ := by unfold Addr.add; split <;> simp_all
    show (w.alloc (.cells cs 5)).cell? _ = _
    rw [e, World.cell?_alloc_new, hcs]
    simpa using hj
  · intro u hu
    simp [Lib.byteCells] at hu
    obtain ⟨b, _, rfl⟩ := hu
    rfl
  · intro v' w2 hown' hgrow _
    obtain ⟨g, cap, rfl⟩ : ∃ g cap, v' = .slice (some ⟨g, 0, none⟩) (l.length + n) cap := by
      rcases hown'.2 with ⟨_, h0⟩ | ⟨g, cap, cur, hv, _⟩
      · omega
      · exact ⟨g, cap, hv⟩
    refine h g cap w2 ?_ ?_
    · unfold Owns
      rw [Lib.byteCells_append, List.length_append, hn]
      exact hown'
    · exact (((Below.refl B w).alloc hB _).drew).grown hgrow (by show B ≤ (w.alloc (.cells cs 5)).heap.size; simp; omega) (fun k hk => (hown.lt k hk).1)

theorem owns_string {B g cap n : Nat} {l : List UInt8} {w : World} (h : Owns B (.slice (some ⟨g, 0, none⟩) n cap) l w) (hn : n = l.length) :
    (convert 48 9 (.slice (some ⟨g, 0, none⟩) n cap)).run Tryz.prog w = .ok (.string ⟨l.toArray⟩) w := by
  subst hn
  refine run_convert_bytes_back w 48 9 5 ⟨g, 0, none⟩ cap l (by kernel_rfl) (by kernel_rfl) (by kernel_rfl) (fun j hj => ?_)
  exact World.ownsRow.cells h (g := g) rfl j (.int .u8 l[j].toNat) (by simp [Lib.byteCells, hj])

theorem owns_first (w : World) (c : UInt8) (n : Int) (hn : n = (c.toNat : Int)) : Owns w.heap.size (.slice (some ⟨w.heap.size, 0, none⟩) 1 1) [c] (w.alloc (.cells #[.int .u8 n] 5)) := by
  subst hn
  exact ⟨rfl, .inr ⟨w.heap.size, 1, #[.int .u8 c.toNat], rfl, Nat.le_refl _, heap_alloc_new w _, Nat.le_refl _, by unfold maxLen; decide, rfl, rfl⟩⟩

end Go.Proofs.YtnojlfdojmkonaaGreatDoor
