/- A heap beside the document's. -/
import Derived.Test.YtemidicgipebjaaGreatRhProto
import Derived.Test.YtemidicgipebjaaGreatRhGrow
import Derived.Test.YtemidicgipebjaaGreatRhMake
import Derived.Test.YtemidicgipebjaaGreatJoint22
namespace Go.Proofs.YtemidicgipebjaaGreat
set_option linter.unusedSimpArgs false
set_option linter.unusedVariables false
set_option maxRecDepth 100000
open Go.RowKit

/-- a heap at h, the document's at r, beside the law's blocks X -/
def TwY (B : Nat) (X : Nat → Prop) (K h r : Nat) (H G : He) (w : World) : Prop :=
  ∃ f v tv q col, RhM G r f v tv q col w ∧ (∀ b, col b ≠ 0 → B ≤ b ∧ ¬ X b) ∧ HpS (fun b => B ≤ b ∧ ¬ X b ∧ col b = 0) K h H w
section
variable {B K J h r : Nat} {X Y : Nat → Prop} {H H' G G' : He} {w a b : World} {F : Nat} {args : Array Value} {res : Value}
theorem TwY.on (t : TwY B X K h r H G a) (k : Below a.heap.size a b) : TwY B X K h r H G b := by
  obtain ⟨f, v, tv, q, col, p, hc, s⟩ := t
  exact ⟨f, v, tv, q, col, p.on k, hc, s.on k⟩
theorem TwY.wf (t : TwY B X K h r H G w) : WfH K H := by
  obtain ⟨f, v, tv, q, col, p, hc, s⟩ := t
  exact s.wf
theorem TwY.more (t : TwY B X K h r H G w) (hJ : K ≤ J) : TwY B X J h r H G w := by
  obtain ⟨f, v, tv, q, col, p, hc, s⟩ := t
  exact ⟨f, v, tv, q, col, p, hc, s.more hJ⟩
theorem TwY.law (t : TwY B X K h r H G w) (hY : ∀ b, b < w.heap.size → Y b → X b) : TwY B Y K h r H G w := by
  obtain ⟨f, v, tv, q, col, p, hc, s⟩ := t
  exact ⟨f, v, tv, q, col, p, fun b hb => ⟨(hc b hb).1, fun e => (hc b hb).2 (hY b (p.lt hb) e)⟩, s.mono (fun b hb e => ⟨e.1, fun y => e.2.1 (hY b hb y), e.2.2⟩)⟩
theorem twy_prog (t : TwY B X K h r H G w) (hB : B ≤ w.heap.size) (hX : ∀ b, X b → b < w.heap.size)
    (call : ∀ S, HpS S K h H w → Calls Tryz.prog F args w fun e w' => e = .returned res ∧ HpS (Up S w) J h H' w' ∧ Keep S w w') :
    Calls Tryz.prog F args w fun e w' => e = .returned res ∧ TwY B X J h r H' G w' ∧ Keep (fun b => B ≤ b ∧ ¬ X b) w w' := by
  obtain ⟨f, v, tv, q, col, p, hc, s⟩ := t
  refine (call _ s).mono ?_
  rintro e w' ⟨rfl, s', k⟩
  have g : Grew (fun u => u = 0) col col w w' := ⟨fun _ _ => rfl, fun b hb => p.top b (Nat.le_trans k.size hb), k.mono (fun b _ e => e.2.2)⟩
  refine ⟨rfl, ⟨f, v, tv, q, col, p.same g (by omega) (by omega) (by omega) (fun i => by omega), hc, s'.mono (fun b _ e => ?_)⟩, k.mono (fun b _ e => ⟨e.1, e.2.1⟩)⟩
  rcases e with e | e
  · exact e
  · exact ⟨by omega, fun y => by have := hX b y; omega, p.top b e⟩
theorem twy_doc (t : TwY B X K h r H G w) (hB : B ≤ w.heap.size) (hX : ∀ b, X b → b < w.heap.size)
    (call : ∀ f v tv q col, RhM G r f v tv q col w → Calls Tryz.prog F args w fun e w' => e = .returned res ∧ Chn G' r f col w w') :
    Calls Tryz.prog F args w fun e w' => e = .returned res ∧ TwY B X K h r H G' w' ∧ Keep (fun b => B ≤ b ∧ ¬ X b) w w' := by
  obtain ⟨f, v, tv, q, col, p, hc, s⟩ := t
  refine (call f v tv q col p).mono ?_
  rintro e w' ⟨rfl, v', tv', q', col', p', k, old⟩
  have s1 := s.mono (T := fun b => (B ≤ b ∧ ¬ X b ∧ col b = 0) ∧ b < w.heap.size) (fun b hb e => ⟨e, hb⟩)
  have s2 := s1.keep k (fun b _ e => by simp [e.1.2.2])
  refine ⟨rfl, ⟨f, v', tv', q', col', p', fun b hb => ?_, s2.mono (fun b _ e => ⟨e.1.1, e.1.2.1, by rw [old b e.2]; exact e.1.2.2⟩)⟩, k.mono (fun b _ e => hc b e)⟩
  by_cases hl : b < w.heap.size
  · exact hc b (by rw [← old b hl]; exact hb)
  · exact ⟨by omega, fun y => by have := hX b y; omega⟩
end
end Go.Proofs.YtemidicgipebjaaGreat
