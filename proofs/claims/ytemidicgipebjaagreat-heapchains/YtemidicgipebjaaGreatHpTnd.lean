/- A property more, one less, another prototype: of an object of a heap. -/
import Derived.Test.YtemidicgipebjaaGreatHpTurn
import Derived.Test.YtemidicgipebjaaGreatHpWf3
namespace Go.Proofs.YtemidicgipebjaaGreat
set_option linter.unusedSimpArgs false
set_option maxRecDepth 100000
open Go.RowKit

theorem ivO_iface (x : Ob) (q : Nat) : ∃ T, ivO x q = .iface T (.pointer (some ⟨q, 0, none⟩)) := by
  unfold ivO
  split
  · exact ⟨_, rfl⟩
  · exact ⟨_, rfl⟩
/-- an object is another one, behind with, without, under -/
def Tnd (K i : Nat) (H : He) (H' : He) (x' : Ob) (h s c n f : Nat) (v : Value) (g q col : Nat → Nat) (w : World) (e : Ending) (w1 : World) : Prop :=
  ∃ (T : TypeId) (qi : Nat) (col' : Nat → Nat) (x : Ob), e = .returned (.iface T (.pointer (some ⟨qi, 0, none⟩))) ∧ H.os[i]? = some x ∧ x.ep ≤ K ∧ Blk (g i) 97 #[ivO x (q i), .int .i64 (x.ep : Int)] w1 ∧ (∀ b, col b = 0 → b < w.heap.size → w1.heap[b]? = w.heap[b]?) ∧ (∀ b, col b = 1 → b < w.heap.size → w1.heap[b]? = w.heap[b]?) ∧ w.heap.size ≤ w1.heap.size ∧
    HpAt (K + 1) (putI H' i x') h s c n f v g (upd q i qi) col' ((w1.setCell ⟨g i, 0, none⟩ (.iface T (.pointer (some ⟨qi, 0, none⟩)))).setCell ⟨g i, 1, none⟩ (.int .i64 ((x.ep + 1 : Nat) : Int))) ∧
    Keep (fun b => col b ≠ 0) w ((w1.setCell ⟨g i, 0, none⟩ (.iface T (.pointer (some ⟨qi, 0, none⟩)))).setCell ⟨g i, 1, none⟩ (.int .i64 ((x.ep + 1 : Nat) : Int))) ∧ ∀ b, b < w.heap.size → col' b = col b
theorem tnd_of {K i : Nat} {H H' : He} {x x' : Ob} {h s c n f : Nat} {v : Value} {g q col : Nat → Nat} {w w1 : World} {e : Ending} (p : HpAt K H h s c n f v g q col w) (hi : H.os[i]? = some x) (t : Turned (K + 1) H' c n f (4 + i) x' col w e w1) (hm : H'.most = H.most) (hp : H'.props = H.props) (ho : H'.os = H.os) (wf : WfH (K + 1) (putI H' i x')) (he : x'.ep = x.ep + 1) : Tnd K i H H' x' h s c n f v g q col w e w1 := by
  obtain ⟨qi, col', rfl, C, k, G⟩ := t
  obtain ⟨T, hT⟩ := ivO_iface x' qi
  obtain ⟨r1, r2, r3⟩ := p.turn hi C k G (Nat.le_succ _) hm hp ho wf he
  rw [hT] at r2 r3
  exact ⟨T, qi, col', x, by rw [hT], hi, (p.wf.obs i x hi).ep, r1, fun b hb hl => G.keep.block b hl (by rw [hb]; omega), fun b hb hl => G.keep.block b hl (by rw [hb]; omega), G.keep.size, r2, r3, G.old⟩
theorem tnd_done {S : Nat → Prop} {K : Nat} {H' : He} {h s c n f : Nat} {v : Value} {g q' col col' : Nat → Nat} {w w2 : World} (p : HpAt K H' h s c n f v g q' col' w2) (k : Keep (fun b => col b ≠ 0) w w2) (ho : ∀ b, b < w.heap.size → col' b = col b) (hS : ∀ b, col b ≠ 0 → S b) : HpS (Up S w) K h H' w2 ∧ Keep S w w2 := by
  refine ⟨⟨s, c, n, f, v, g, q', col', p, fun b hb => ?_⟩, k.mono (fun b _ e => hS b e)⟩
  by_cases hl : b < w.heap.size
  · exact .inl (hS b (by rw [← ho b hl]; exact hb))
  · exact .inr (by omega)
theorem hwith_slot {K : Nat} {H : He} {h s c n f i : Nat} {v : Value} {g q col : Nat → Nat} {x : Ob} (w : World) (p : HpAt K H h s c n f v g q col w) (hK : 40 ≤ K) (hK2 : K ≤ 900000) (hi : H.os[i]? = some x) (h0 : x.sh ≠ 0) (nm : ByteArray) (hn : nm.size ≤ 1000000) (hh : hasL x.l nm = false) (hl : x.l.length < H.props) (u : Vl) :
    Calls Tryz.prog 58 #[.iface 88 (.pointer (some ⟨q i, 0, none⟩)), .string nm, vlV u] w fun e w' => Tnd K i H (nextH H x.sh nm) { x with l := x.l ++ [(nm, u)], ep := x.ep + 1, sh := nextN H x.sh nm } h s c n f v g q col w e w' := by
  obtain ⟨vv, h1, h2⟩ := p.slotted hi h0
  obtain ⟨n1, n2, y, n3⟩ := p.named (by omega) hi h0
  refine (with_slot (J := K + 1) w p.cls p.one.2.2.1 p.top (by omega) h1 h2 n1 n3 n2 (p.wf.obs i x hi).ok (p.wf.obs i x hi).few (by have := p.wf.nl; omega) (by omega) nm hn hh u).mono ?_
  intro e w' t
  exact tnd_of p hi t (by unfold nextH; split <;> rfl) (by unfold nextH; split <;> rfl) next_stay.2.2.2.2 (set_wf p.wf hK2 hi nm hn hh hl u) rfl
theorem hwith_dict {K : Nat} {H : He} {h s c n f i : Nat} {v : Value} {g q col : Nat → Nat} {x : Ob} (w : World) (p : HpAt K H h s c n f v g q col w) (hK : 40 ≤ K) (hK2 : K ≤ 900000) (hi : H.os[i]? = some x) (h0 : x.sh = 0) (nm : ByteArray) (hn : nm.size ≤ 1000000) (hh : hasL x.l nm = false) (hl : x.l.length < H.props) (u : Vl) :
    Calls Tryz.prog 58 #[.iface 133 (.pointer (some ⟨q i, 0, none⟩)), .string nm, vlV u] w fun e w' => Tnd K i H (nextH H x.sh nm) { x with l := x.l ++ [(nm, u)], ep := x.ep + 1, sh := nextN H x.sh nm } h s c n f v g q col w e w' := by
  obtain ⟨m, h1, h2⟩ := p.dict hi h0
  have e1 : nextN H x.sh nm = 0 := by rw [h0]; unfold nextN; rw [getS_out (.inl (by omega))]
  have e2 : nextH H x.sh nm = H := by rw [h0]; unfold nextH; rw [getS_out (.inl (by omega))]
  have wf := set_wf p.wf hK2 hi nm hn hh hl u
  rw [e1, e2] at wf ⊢
  refine (with_dict w h1 (by omega) nm hn u).mono ?_
  rintro e w' ⟨rfl, k1, k2⟩
  rw [setL_new u hh] at k1
  exact tnd_of p hi (turned_dict (x' := { x with l := x.l ++ [(nm, u)], ep := x.ep + 1, sh := 0 }) (m := m + 1) p.cls p.one.2.2.1 (by omega) rfl k2 k1 (by omega)) rfl rfl rfl wf rfl
theorem hwithout_slot {K : Nat} {H : He} {h s c n f i : Nat} {v : Value} {g q col : Nat → Nat} {x : Ob} (w : World) (p : HpAt K H h s c n f v g q col w) (hK : 40 ≤ K) (hK2 : K ≤ 900000) (hi : H.os[i]? = some x) (h0 : x.sh ≠ 0) (nm : ByteArray) (hn : nm.size ≤ 1000000) :
    Calls Tryz.prog 59 #[.iface 88 (.pointer (some ⟨q i, 0, none⟩)), .string nm] w fun e w' => Tnd K i H H { x with l := dropL x.l nm, ep := x.ep + 1, sh := 0 } h s c n f v g q col w e w' := by
  obtain ⟨vv, h1, h2⟩ := p.slotted hi h0
  obtain ⟨n1, n2, y, n3⟩ := p.named (by omega) hi h0
  refine (without_slot (K := K + 1) (t := 4 + i) w p.cls p.one.2.2.1 p.top (by omega) h1 n1 n2 (p.wf.obs i x hi).ok (p.wf.obs i x hi).few (by omega) nm hn).mono ?_
  intro e w' t
  exact tnd_of p hi t rfl rfl rfl (del_wf p.wf hi nm) rfl
theorem hwithout_dict {K : Nat} {H : He} {h s c n f i : Nat} {v : Value} {g q col : Nat → Nat} {x : Ob} (w : World) (p : HpAt K H h s c n f v g q col w) (hK : 40 ≤ K) (hK2 : K ≤ 900000) (hi : H.os[i]? = some x) (h0 : x.sh = 0) (nm : ByteArray) (hn : nm.size ≤ 1000000) :
    Calls Tryz.prog 59 #[.iface 133 (.pointer (some ⟨q i, 0, none⟩)), .string nm] w fun e w' => Tnd K i H H { x with l := dropL x.l nm, ep := x.ep + 1, sh := 0 } h s c n f v g q col w e w' := by
  obtain ⟨m, h1, h2⟩ := p.dict hi h0
  refine (without_dict w h1 (by omega) nm hn).mono ?_
  rintro e w' ⟨rfl, k1, k2⟩
  exact tnd_of p hi (turned_dict (x' := { x with l := dropL x.l nm, ep := x.ep + 1, sh := 0 }) (m := m) p.cls p.one.2.2.1 (by omega) rfl k2 k1 (by omega)) rfl rfl rfl (del_wf p.wf hi nm) rfl
theorem hunder_slot {K : Nat} {H : He} {h s c n f i : Nat} {v : Value} {g q col : Nat → Nat} {x : Ob} (w : World) (p : HpAt K H h s c n f v g q col w) (hK : 40 ≤ K) (hK2 : K ≤ 900000) (hi : H.os[i]? = some x) (h0 : x.sh ≠ 0) (a : Nat) (ha : a ≤ H.os.length) (hon : onH H ((i + 1 : Nat) : Int) (a : Int) = false) :
    Calls Tryz.prog 61 #[.iface 88 (.pointer (some ⟨q i, 0, none⟩)), .int .i64 (a : Int)] w fun e w' => Tnd K i H { H with L := (moveP H.M H.L x.sh a).2 } { x with pr := a, ep := x.ep + 1, sh := (moveP H.M H.L x.sh a).1 } h s c n f v g q col w e w' := by
  obtain ⟨vv, h1, h2⟩ := p.slotted hi h0
  obtain ⟨n1, n2, y, n3⟩ := p.named (by omega) hi h0
  refine (under_slot (K := K + 1) w p.cls p.one.2.2.1 p.top (by omega) h1 h2 n1 n3 (p.wf.obs i x hi).ok (p.wf.obs i x hi).few (by omega) a (by have := p.wf.len; have := p.wf.most; omega)).mono ?_
  intro e w' t
  exact tnd_of p hi t rfl rfl rfl (move_wf p.wf hi h0 ha hon) rfl
theorem hunder_dict {K : Nat} {H : He} {h s c n f i : Nat} {v : Value} {g q col : Nat → Nat} {x : Ob} (w : World) (p : HpAt K H h s c n f v g q col w) (hi : H.os[i]? = some x) (h0 : x.sh = 0) (a : Nat) (ha : a ≤ H.os.length) (hon : onH H ((i + 1 : Nat) : Int) (a : Int) = false) :
    Calls Tryz.prog 61 #[.iface 133 (.pointer (some ⟨q i, 0, none⟩)), .int .i64 (a : Int)] w fun e w' => Tnd K i H H { x with pr := a, ep := x.ep + 1 } h s c n f v g q col w e w' := by
  obtain ⟨m, h1, h2⟩ := p.dict hi h0
  refine (under_dict w h1 (a : Int)).mono ?_
  rintro e w' ⟨rfl, k1, k2⟩
  exact tnd_of p hi (turned_dict (x' := { x with pr := a, ep := x.ep + 1 }) (m := m) p.cls p.one.2.2.1 (by omega) h0 k2 (k1.mono (fun _ _ e => .inl e) (Nat.le_refl _)) (by omega)) rfl rfl rfl (under_wf p.wf hi h0 ha hon) rfl

end Go.Proofs.YtemidicgipebjaaGreat
