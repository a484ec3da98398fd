/- What ops' small functions answer, and the document's. -/
import Derived.Test.YtpagacgkcpgicaaSlot
import Derived.Test.YtpagacgkcpgicaaNumDivs
namespace Go.Proofs.Ytpagacgkcpgicaa
open Go.RowKit

def bit (t : Bool) : Int := if t then 1 else 0

theorem whole_calls (n : Int) (w : World) :
    Calls Try.prog 24 #[.int .i64 n] w fun e w' => e = .returned (.agg #[.int .i64 2, .int .i64 n, .string ⟨#[]⟩]) ∧ Below w.heap.size w w' := by
  go_enter Try.func24, Try.ntmps24
  go_wp2
  exact bodyPost_ret (ret_v rfl rfl ⟨by simp, by simp, by simp⟩) rfl ⟨rfl, box1 _ _⟩

theorem str_calls (s : ByteArray) (w : World) :
    Calls Try.prog 29 #[.string s] w fun e w' => e = .returned (.agg #[.int .i64 3, .int .i64 0, .string s]) ∧ Below w.heap.size w w' := by
  go_enter Try.func29, Try.ntmps29
  go_wp2
  exact bodyPost_ret (ret_v rfl rfl ⟨by simp, by simp, by simp⟩) rfl ⟨rfl, box1 _ _⟩

theorem bool_calls (t : Bool) (w : World) :
    Calls Try.prog 26 #[.bool t] w fun e w' => e = .returned (.agg #[.int .i64 1, .int .i64 (bit t), .string ⟨#[]⟩]) ∧ Below w.heap.size w w' := by
  cases t
  · rw [show bit false = 0 from rfl]
    go_enter Try.func26, Try.ntmps26
    go_wp2
    exact bodyPost_ret (ret_v rfl rfl ⟨by simp [World.cell?_alloc_past], by simp [World.cell?_alloc_past], by simp [World.cell?_alloc_past]⟩) rfl ⟨rfl, box2 _ _ _⟩
  · rw [show bit true = 1 from rfl]
    go_enter Try.func26, Try.ntmps26
    go_wp2
    exact bodyPost_ret (ret_v rfl rfl ⟨by simp [World.cell?_alloc_past], by simp [World.cell?_alloc_past], by simp [World.cell?_alloc_past]⟩) rfl ⟨rfl, box2 _ _ _⟩

theorem refbool_calls (t : Bool) (w : World) :
    Calls Try.prog 30 #[.bool t] w fun e w' => e = .returned (.agg #[.int .i64 1, .int .i64 (bit t), .string ⟨#[]⟩]) ∧ Below w.heap.size w w' := by
  cases t
  · rw [show bit false = 0 from rfl]
    go_enter Try.func30, Try.ntmps30
    go_wp2
    exact bodyPost_ret (ret_v rfl rfl ⟨by simp [World.cell?_alloc_past], by simp [World.cell?_alloc_past], by simp [World.cell?_alloc_past]⟩) rfl ⟨rfl, box2 _ _ _⟩
  · rw [show bit true = 1 from rfl]
    go_enter Try.func30, Try.ntmps30
    go_wp2
    exact bodyPost_ret (ret_v rfl rfl ⟨by simp [World.cell?_alloc_past], by simp [World.cell?_alloc_past], by simp [World.cell?_alloc_past]⟩) rfl ⟨rfl, box2 _ _ _⟩

theorem refwhole_calls (n : Int) (w : World) :
    Calls Try.prog 32 #[.int .i64 n, .int .i64 0] w fun e w' => e = .returned (.tuple #[.agg #[.int .i64 2, .int .i64 n, .string ⟨#[]⟩], .int .i64 0]) ∧ Below w.heap.size w w' := by
  go_enter Try.func32, Try.ntmps32
  go_wp2
  exact bodyPost_ret (ret_ve rfl rfl ⟨by simp, by simp, by simp⟩) rfl ⟨rfl, box1 _ _⟩

theorem refwhole_zero (n : Int) (w : World) :
    Calls Try.prog 32 #[.int .i64 n, .int .i64 31] w fun e w' => e = .returned (.tuple #[.agg #[.int .i64 0, .int .i64 0, .string ⟨#[]⟩], .int .i64 31]) ∧ Below w.heap.size w w' := by
  go_enter Try.func32, Try.ntmps32
  go_wp2
  exact bodyPost_ret (ret_ve rfl rfl ⟨by simp, by simp, by simp⟩) rfl ⟨rfl, box1 _ _⟩

theorem both_calls (c k n : Int) (s : ByteArray) (k' n' : Int) (s' : ByteArray) (w : World) :
    Calls Try.prog 51 #[.int .i64 c, .agg #[.int .i64 k, .int .i64 n, .string s], .agg #[.int .i64 k', .int .i64 n', .string s']] w fun e w' =>
      e = .returned (.bool (k == c && k' == c)) ∧ Below w.heap.size w w' := by
  cases hk : (k == c)
  · go_enter Try.func51, Try.ntmps51
    go_wp2
    go_ret
    exact ⟨rfl, box2 _ _ _⟩
  · go_enter Try.func51, Try.ntmps51
    go_wp2
    go_ret
    exact ⟨rfl, box2 _ _ _⟩

end Go.Proofs.Ytpagacgkcpgicaa
