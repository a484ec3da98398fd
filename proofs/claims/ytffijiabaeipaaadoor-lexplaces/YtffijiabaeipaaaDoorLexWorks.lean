/- The laws' own test. -/
import Derived.Test.YtffijiabaeipaaaDoorLexSame
import Derived.KernelRfl
namespace Go.Proofs.YtffijiabaeipaaaDoor
open Go.RowKit

def trial : ByteArray := ⟨#[97, 60, 61, 49, 50, 32, 47, 47, 32, 98]⟩
theorem trial_out : tokOut trial = ([⟨1, ⟨#[97]⟩, 0, 0⟩, ⟨5, ⟨#[60, 61]⟩, 0, 1⟩, ⟨3, ⟨#[49, 50]⟩, 12, 3⟩, ⟨6, ⟨#[]⟩, 0, 10⟩], 0, 0) := by kernel_rfl

theorem works_calls (w : World) (h0 : 0 < w.heap.size) (SG : Hid (Texts 0 sgnL w)) :
    Calls Tryd.prog 7 #[] w fun e w' => e = .returned (.bool true) ∧ Below w.heap.size w w' := by
  have hk := hid (show keyB (⟨#[102, 110]⟩ : ByteArray).data.toList = true by kernel_rfl)
  go_enter Tryd.func7, Tryd.ntmps7
  go_wp2_with fail
  refine (tokens_calls trial (by decide) _ h0 SG).mono ?_
  rintro e w1 ⟨v, rfl, R, b1⟩
  rw [trial_out] at R ⊢
  rcases row_lies R with ⟨_, h⟩ | ⟨g, cap, rfl, _, _, hL⟩
  · cases h
  have c1 := (hL 1 (by decide)).2.1
  have c2 := (hL 2 (by decide)).2.2.1
  have c3 := (hL 3 (by decide)).1
  have B := hid b1
  clear R hL b1 SG
  simp only [List.getElem_cons_zero, List.getElem_cons_succ] at c1 c2 c3
  unfold tokEnding
  go_wp2_with fail
  refine (iskey_calls _ _).mono ?_
  rintro e w2 ⟨rfl, rfl⟩
  rw [hk.out]
  go_wp2
  go_ret
  exact ⟨rfl, B.out⟩

end Go.Proofs.YtffijiabaeipaaaDoor
