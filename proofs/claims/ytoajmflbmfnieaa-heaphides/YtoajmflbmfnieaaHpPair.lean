/- Two heaps side by side, beside the law's own blocks X. -/
import Derived.Test.YtoajmflbmfnieaaHpHide
import Derived.Test.YtoajmflbmfnieaaHpRows
namespace Go.Proofs.Ytoajmflbmfnieaa
set_option linter.unusedSimpArgs false
set_option maxRecDepth 100000
open Go.RowKit

def PairH (B : Nat) (X : Nat → Prop) (K h g : Nat) (H G : He) (w : World) : Prop :=
  ∃ S T : Nat → Prop, HpS S K h H w ∧ HpS T K g G w ∧ (∀ b, S b → ¬ T b) ∧ ∀ b, S b ∨ T b → B ≤ b ∧ ¬ X b ∧ b < w.heap.size
theorem PairH.on {B K h g : Nat} {X : Nat → Prop} {H G : He} {a c : World} (p : PairH B X K h g H G a) (k : Below a.heap.size a c) : PairH B X K h g H G c := by
  obtain ⟨S, T, p1, p2, hd, hs⟩ := p
  exact ⟨S, T, p1.on k, p2.on k, hd, fun b hb => ⟨(hs b hb).1, (hs b hb).2.1, Nat.lt_of_lt_of_le (hs b hb).2.2 k.size⟩⟩
theorem PairH.swap {B K h g : Nat} {X : Nat → Prop} {H G : He} {w : World} (p : PairH B X K h g H G w) : PairH B X K g h G H w := by
  obtain ⟨S, T, p1, p2, hd, hs⟩ := p
  exact ⟨T, S, p2, p1, fun b h1 h2 => hd b h2 h1, fun b hb => hs b hb.symm⟩
theorem PairH.more {B K J h g : Nat} {X : Nat → Prop} {H G : He} {w : World} (p : PairH B X K h g H G w) (hJ : K ≤ J) : PairH B X J h g H G w := by
  obtain ⟨S, T, p1, p2, hd, hs⟩ := p
  exact ⟨S, T, p1.more hJ, p2.more hJ, hd, hs⟩
/-- other blocks of the law's -/
theorem PairH.law {B K h g : Nat} {X Y : Nat → Prop} {H G : He} {w : World} (p : PairH B X K h g H G w) (hY : ∀ b, b < w.heap.size → Y b → X b) : PairH B Y K h g H G w := by
  obtain ⟨S, T, p1, p2, hd, hs⟩ := p
  exact ⟨S, T, p1, p2, hd, fun b hb => ⟨(hs b hb).1, fun hy => (hs b hb).2.1 (hY b (hs b hb).2.2 hy), (hs b hb).2.2⟩⟩
theorem PairH.one {B K h g : Nat} {X : Nat → Prop} {H G : He} {w : World} (p : PairH B X K h g H G w) : ∃ S, HpS S K h H w := by
  obtain ⟨S, T, p1, _⟩ := p
  exact ⟨S, p1⟩
/-- a call on the first one -/
theorem pair_call {B K J h g : Nat} {X : Nat → Prop} {H H' G : He} {w : World} {F : Nat} {args : Array Value} {res : Value} (p : PairH B X K h g H G w) (hJ : K ≤ J) (hB : B ≤ w.heap.size) (hX : ∀ b, X b → b < w.heap.size)
    (c : ∀ S, HpS S K h H w → Calls Try.prog F args w fun e w' => e = .returned res ∧ HpS (Up S w) J h H' w' ∧ Keep S w w') :
    Calls Try.prog F args w fun e w' => e = .returned res ∧ PairH B X J h g H' G w' ∧ Keep (fun b => B ≤ b ∧ ¬ X b) w w' := by
  obtain ⟨S, T, p1, p2, hd, hs⟩ := p
  refine (c S p1).mono ?_
  rintro e w' ⟨rfl, q, k⟩
  have hz := k.size
  refine ⟨rfl, ⟨fun b => (S b ∨ w.heap.size ≤ b) ∧ b < w'.heap.size, T, q.mono (fun b hb h => ⟨h, hb⟩), (p2.more hJ).keep k (fun b _ ht h => hd b h ht), fun b h ht => ?_, fun b hb => ?_⟩, k.mono (fun b _ h => ⟨(hs b (.inl h)).1, (hs b (.inl h)).2.1⟩)⟩
  · rcases h.1 with h1 | h1
    · exact hd b h1 ht
    · have := (hs b (.inr ht)).2.2
      omega
  · rcases hb with ⟨h1 | h1, h2⟩ | h1
    · exact ⟨(hs b (.inl h1)).1, (hs b (.inl h1)).2.1, h2⟩
    · exact ⟨by omega, fun hx => by have := hX b hx; omega, h2⟩
    · have := hs b (.inr h1)
      exact ⟨this.1, this.2.1, by omega⟩

/-- an act's cells, and that it may be read -/
def BoxH (g : Nat) (a : AcH) (w : World) : Prop := g < w.heap.size ∧ w.cell? ⟨g, 0, none⟩ = some (.int .i64 a.1) ∧ w.cell? ⟨g, 1, none⟩ = some (.int .i64 a.2.1) ∧ w.cell? ⟨g, 2, none⟩ = some (.int .i64 a.2.2.1) ∧ w.cell? ⟨g, 3, none⟩ = some (.string a.2.2.2.1) ∧ w.cell? ⟨g, 4, none⟩ = some (.int .i64 a.2.2.2.2.1) ∧ w.cell? ⟨g, 5, none⟩ = some (.int .i64 a.2.2.2.2.2.1) ∧ w.cell? ⟨g, 6, none⟩ = some (.string a.2.2.2.2.2.2)
theorem boxH_on {g : Nat} {a : AcH} {x y : World} (h : BoxH g a x) (k : Below x.heap.size x y) : BoxH g a y := by
  obtain ⟨h0, h7, h1, h2, h3, h4, h5, h6⟩ := h
  exact ⟨Nat.lt_of_lt_of_le h0 k.size, cell_on h7 h0 k, cell_on h1 h0 k, cell_on h2 h0 k, cell_on h3 h0 k, cell_on h4 h0 k, cell_on h5 h0 k, cell_on h6 h0 k⟩
theorem boxH_keep {S : Nat → Prop} {g : Nat} {a : AcH} {x y : World} (h : BoxH g a x) (k : Keep S x y) (hs : ¬ S g) : BoxH g a y := by
  obtain ⟨h0, h7, h1, h2, h3, h4, h5, h6⟩ := h
  exact ⟨Nat.lt_of_lt_of_le h0 k.size, cell_keep h7 h0 k hs, cell_keep h1 h0 k hs, cell_keep h2 h0 k hs, cell_keep h3 h0 k hs, cell_keep h4 h0 k hs, cell_keep h5 h0 k hs, cell_keep h6 h0 k hs⟩
/-- two heaps that are alike -/
def TwoH (B : Nat) (X : Nat → Prop) (K h g : Nat) (w : World) : Prop := ∃ H G, PairH B X K h g H G w ∧ Alike H G ∧ HFit H ∧ HFit G

end Go.Proofs.Ytoajmflbmfnieaa
