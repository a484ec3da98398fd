/- One step of reading tokens. -/
import Derived.Test.YtnojlfdojmkonaaGreatDoorLexPlain
namespace Go.Proofs.YtnojlfdojmkonaaGreatDoor
open Go.RowKit

theorem tokGo_end {s : ByteArray} {f k : Nat} {acc : List Tok} (h : s.size ≤ k) : tokGo s (f + 1) k acc = (acc ++ [⟨6, ⟨#[]⟩, 0, s.size⟩], 0, 0) := by rw [tokGo, if_pos h]
theorem tokGo_bad {s : ByteArray} {f k : Nat} {acc : List Tok} {o : TokOut} (h : k < s.size) (ho : oneOut (s.data.toList.drop k) k = o) (he : o.2.2 ≠ 0) : tokGo s (f + 1) k acc = ([], o.2.1, o.2.2) := by
  rw [tokGo, if_neg (by omega), ho, if_pos he]
theorem tokGo_full {s : ByteArray} {f k : Nat} {acc : List Tok} {o : TokOut} (h : k < s.size) (ho : oneOut (s.data.toList.drop k) k = o) (he : o.2.2 = 0) (hf : acc.length = 600) : tokGo s (f + 1) k acc = ([], k, 5) := by
  rw [tokGo, if_neg (by omega), ho, if_neg (by rw [he]; decide), if_pos hf]
theorem tokGo_more {s : ByteArray} {f k : Nat} {acc : List Tok} {o : TokOut} (h : k < s.size) (ho : oneOut (s.data.toList.drop k) k = o) (he : o.2.2 = 0) (hf : acc.length ≠ 600) :
    tokGo s (f + 1) k acc = tokGo s f (skipTo false s o.2.1) (acc ++ [o.1]) := by
  rw [tokGo, if_neg (by omega), ho, if_neg (by rw [he]; decide), if_neg hf]

end Go.Proofs.YtnojlfdojmkonaaGreatDoor
