/- Next and Grow. -/
import Derived.Test.YtoajmflbmfnieaaHpPut
namespace Go.Proofs.Ytoajmflbmfnieaa
set_option linter.unusedSimpArgs false
set_option maxRecDepth 100000
open Go.RowKit

/-- shapes and names alone were changed -/
theorem HpAt.next {K J : Nat} {H H' : He} {h s c n f : Nat} {v : Value} {g q col col' : Nat → Nat} {w w' : World} (p : HpAt K H h s c n f v g q col w) (C : Cls H' c n f col' w') (G : Grew (fun u => u = 2 ∨ u = 3) col col' w w') (hJ : K ≤ J)
    (hm : H'.most = H.most) (hp : H'.props = H.props) (ho : H'.os = H.os) (wf : WfH J H') : HpAt J H' h s c n f v g q col' w' := by
  have o := p.one
  have hlt : ∀ y, col y ≠ 0 → y < w.heap.size := fun y hy => Nat.lt_of_not_le (fun h => hy (p.top y h))
  have n1 : ∀ y, col y = 1 → y < w.heap.size ∧ ¬ (col y = 2 ∨ col y = 3) ∧ col' y = 1 := fun y e => ⟨hlt y (by omega), by omega, by rw [G.old y (hlt y (by omega))]; exact e⟩
  refine ⟨wf, blk_keep p.bh G.keep (n1 _ o.1).2.1, ?_, ?_, C, ?_, ?_, ⟨(n1 _ o.1).2.2, (n1 _ o.2.1).2.2, (n1 _ o.2.2.1).2.2, fun b hb => (n1 _ (o.2.2.2 b hb)).2.2⟩, G.top⟩
  · rw [hm, hp]
    exact blk_keep p.bs G.keep (n1 _ o.2.1).2.1
  · rw [ho]
    exact row_keep p.row (fun b hb => G.keep.block b (n1 _ (o.2.2.2 b hb)).1 (n1 _ (o.2.2.2 b hb)).2.1)
  · intro j y hj
    rw [ho] at hj
    obtain ⟨b1, b2, b3⟩ := p.ob j y hj
    exact ⟨blk_keep b1 G.keep (n1 _ b3).2.1, (b2.grew G (by omega)).mono (fun _ _ e => e) hJ, (n1 _ b3).2.2⟩
  · rw [ho]; exact p.gi
theorem hgrown_slot {J : Nat} {H : He} {h s c n f i : Nat} {v : Value} {g q col : Nat → Nat} {x : Ob} (w : World) (p : HpAt J H h s c n f v g q col w) (hi : H.os[i]? = some x) (h0 : x.sh ≠ 0) {to : Int} (hp : parF H.L to = x.sh) (hl : x.l.length < H.props) (u : Vl) :
    Calls Try.prog 35 #[.pointer (some ⟨q i, 0, none⟩), .int .i64 to, vlV u] w fun e w' => Tnd J i H H { x with l := x.l ++ [(lastN H to, u)], ep := x.ep + 1, sh := to.toNat } h s c n f v g q col w e w' := by
  obtain ⟨vv, h1, h2⟩ := p.slotted hi h0
  obtain ⟨ns, y, e1, e2, e3, e4, e5, e6, e7⟩ := child_of p.wf hi h0 hp
  have hx := p.wf.obs i x hi
  refine (sgrown_calls w h1 to (lastN H to) u (by have := hx.few; omega)).mono ?_
  rintro e w' ⟨rfl, v', k1, k2, k3⟩
  have G := grew_ext (k2.mono (T := fun b => col b = 4 + i) (fun b _ e => h2 b e))
  have hto : ((to.toNat : Nat) : Int) = to := by omega
  refine tnd_of p hi ⟨q i, _, by unfold ivO; rw [if_neg (by show ¬ to.toNat = 0; omega)], p.cls.grew (by rw [p.one.2.2.1]; omega) G (by omega) (by omega), .inl ⟨by show to.toNat ≠ 0; omega, v', by show SlAt c ((to.toNat : Nat) : Int) _ _ _ _; rw [hto]; exact k1, fun b hb => ext_new (k1.lt hb) ?_⟩, G.mono (fun _ e => .inr (.inr e))⟩ rfl rfl rfl (grow_wf p.wf hi h0 hp hl u) rfl
  rcases k3 b hb with e | e
  · exact .inl (h2 b e)
  · exact .inr e
end Go.Proofs.Ytoajmflbmfnieaa
