/- A tree that lies below a place lies below any later one. -/
import Derived.Test.YteoghacpdfnijaaDoorTreeSign
namespace Go.Proofs.YteoghacpdfnijaaDoor
open Go.RowKit

theorem strsIn_up {B B' : Nat} {w : World} {v : Value} {l : List ByteArray} (hB : B ≤ B') (h : StrsIn B v l w) : StrsIn B' v l w := by
  rcases h with h | ⟨b, off, cap, h1, h2, h3, h4⟩
  · exact .inl h
  · exact .inr ⟨b, off, cap, h1, Nat.lt_of_lt_of_le h2 hB, h3, h4⟩
mutual
theorem ndIn_up {B B' : Nat} {w : World} (hB : B ≤ B') : ∀ (t : Nd) (nv kv : Value), NdIn B w t nv kv → NdIn B' w t nv kv
  | .mk _ _ _ _ ns ks _, nv, kv, h => by
    rw [NdIn] at h ⊢
    obtain ⟨h1, h2⟩ := h
    refine ⟨strsIn_up hB h1, ?_⟩
    rcases h2 with h2 | ⟨b, off, cap, e, hb, h3, h4⟩
    · exact .inl h2
    · exact .inr ⟨b, off, cap, e, Nat.lt_of_lt_of_le hb hB, ndsAt_up hB ks off h3, h4⟩
theorem ndsAt_up {B B' : Nat} {w : World} {b : Nat} (hB : B ≤ B') : ∀ (ks : List Nd) (off : Nat), NdsAt B w b ks off → NdsAt B' w b ks off
  | [], _, _ => by rw [NdsAt]; trivial
  | .mk k op n s ns ks p :: r, off, h => by
    rw [NdsAt] at h ⊢
    obtain ⟨⟨nv, kv, h1, h2⟩, h3⟩ := h
    exact ⟨⟨nv, kv, h1, ndIn_up hB _ _ _ h2⟩, ndsAt_up hB r _ h3⟩
end
theorem kidsIn_up {B B' : Nat} {w : World} {kv : Value} {ks : List Nd} (hB : B ≤ B') (h : KidsIn B w kv ks) : KidsIn B' w kv ks := by
  rcases h with h2 | ⟨b, off, cap, e, hb, h3, h4⟩
  · exact .inl h2
  · exact .inr ⟨b, off, cap, e, Nat.lt_of_lt_of_le hb hB, ndsAt_up hB ks off h3, h4⟩
theorem ok_up {B B' : Nat} {w : World} (hB : B ≤ B') (hw : B' ≤ w.heap.size) (h : Ok B w) : Ok B' w := ⟨hw, Nat.lt_of_lt_of_le h.2.1 hB, h.2.2⟩

end Go.Proofs.YteoghacpdfnijaaDoor
