/- What holds of a heap behind Set, Delete, SetProto, Put, Grow. A property more, one less, another prototype: of an object of a heap. -/
import Derived.Test.YtimhgbcanmgajaaGreatJoint11
import Derived.Test.YtimhgbcanmgajaaGreatHpTurn
namespace Go.Proofs.YtimhgbcanmgajaaGreat
set_option linter.unusedSimpArgs false
open Go.RowKit

theorem add_spec {M : Nat} {L : List Sh} {id x : Int} {s : Sh} (h : WfS M L) (hg : getS L id = some s) (h0 : addN M L id x ≠ 0) : getS (addL M L id x) (addN M L id x : Int) = some (s.1, s.2 ++ [x]) ∧ x ∉ s.2 := by
  have e1 : addN M L id x = if 12 ≤ s.2.length ∨ x ∈ s.2 then 0 else ofN M L (s.1, s.2 ++ [x]) := by unfold addN; rw [hg]
  have e2 : addL M L id x = if 12 ≤ s.2.length ∨ x ∈ s.2 then L else ofL M L (s.1, s.2 ++ [x]) := by unfold addL; rw [hg]
  by_cases hc : 12 ≤ s.2.length ∨ x ∈ s.2
  · rw [e1, if_pos hc] at h0
    exact absurd rfl h0
  · rw [e1, if_neg hc] at h0 ⊢
    rw [e2, if_neg hc]
    rcases of_spec (s.1, s.2 ++ [x]) h with ⟨j, f1, f2⟩ | ⟨f1, _⟩
    · rw [f1, getS_succ]
      exact ⟨f2, fun h => hc (.inr h)⟩
    · exact absurd f1 h0
theorem ok_more {l : List Ent} {s : ByteArray} (v : Vl) (hs : s.size ≤ 1000000) (h : OkL l) (hh : hasL l s = false) : OkL (l ++ [(s, v)]) := by
  rw [← setL_new v hh]
  exact ok_set v hs h
theorem set_wf {K : Nat} {H : He} {i : Nat} {x : Ob} (h : WfH K H) (hK : K ≤ 900000) (hi : H.os[i]? = some x) (nm : ByteArray) (hn : nm.size ≤ 1000000) (hh : hasL x.l nm = false) (hl : x.l.length < H.props) (u : Vl) :
    WfH (K + 1) (putI (nextH H x.sh nm) i { x with l := x.l ++ [(nm, u)], ep := x.ep + 1, sh := nextN H x.sh nm }) := by
  have W := next_wf h hK x.sh nm hn
  have hos : (nextH H x.sh nm).os = H.os := by unfold nextH; split <;> rfl
  have hi' : (nextH H x.sh nm).os[i]? = some x := by rw [hos]; exact hi
  have hx := h.obs i x hi
  refine put_wf W ?_ (put_ends W hi' rfl)
  refine ⟨ok_more u hn hx.ok hh, by have := h.props; simp; omega, by have := hx.ep; show x.ep + 1 ≤ K + 1; omega, by rw [hos]; exact hx.pr, fun h0 => ?_⟩
  dsimp only at h0 ⊢
  by_cases hs : x.sh = 0
  · have : nextN H x.sh nm = 0 := by rw [hs]; unfold nextN; rw [getS_out (.inl (by omega))]
    exact absurd this h0
  · obtain ⟨ns, e1, e2⟩ := hx.sh hs
    have hN : nextN H x.sh nm = addN H.M H.L x.sh (numT H.N nm : Int) := by unfold nextN; rw [e1]
    have hH : nextH H x.sh nm = { H with N := ofT H.N nm, L := addL H.M H.L x.sh (numT H.N nm : Int) } := by unfold nextH; rw [e1]
    rw [hN] at h0 ⊢
    obtain ⟨f1, _⟩ := add_spec h.wfs e1 h0
    obtain ⟨j, e, hj⟩ := getS_some e1
    refine ⟨ns ++ [(numT H.N nm : Int)], by rw [hH]; exact f1, ?_⟩
    rw [List.map_append, List.map_append, e2, hH]
    dsimp only
    congr 1
    · refine List.map_congr_left (fun y hy => ?_)
      have hb := h.nums j _ hj y hy
      obtain ⟨k, rfl⟩ : ∃ k : Nat, y = ((k + 1 : Nat) : Int) := ⟨(y - 1).toNat, by omega⟩
      have hk : k < H.N.length := by omega
      have h3 := List.getElem?_eq_getElem hk
      rw [textN_at h3, textN_at (ofT_get h3)]
    · have ha := ofT_at H.N nm
      have hb := atT_at ha.1
      have : ((numT H.N nm : Nat) : Int) = ((numT H.N nm - 1 + 1 : Nat) : Int) := by omega
      simp only [List.map_cons, List.map_nil]
      rw [this, textN_at hb]
theorem del_wf {K : Nat} {H : He} {i : Nat} {x : Ob} (h : WfH K H) (hi : H.os[i]? = some x) (nm : ByteArray) : WfH (K + 1) (putI H i { x with l := dropL x.l nm, ep := x.ep + 1, sh := 0 }) := by
  have W := h.more (Nat.le_succ K)
  have hx := h.obs i x hi
  refine put_wf W ⟨ok_drop hx.ok, ?_, by have := hx.ep; show x.ep + 1 ≤ K + 1; omega, hx.pr, fun h0 => absurd rfl h0⟩ (put_ends W hi rfl)
  exact Nat.le_trans (List.length_filter_le _ _) hx.few
theorem move_wf {K : Nat} {H : He} {i p : Nat} {x : Ob} (h : WfH K H) (hi : H.os[i]? = some x) (h0 : x.sh ≠ 0) (hp : p ≤ H.os.length) (hon : onH H ((i + 1 : Nat) : Int) (p : Int) = false) :
    WfH (K + 1) (putI { H with L := (moveP H.M H.L x.sh p).2 } i { x with pr := p, ep := x.ep + 1, sh := (moveP H.M H.L x.sh p).1 }) := by
  have hx := h.obs i x hi
  have hpp : I64 (p : Int) := by have := h.len; have := h.most; unfold I64; omega
  obtain ⟨ns, e1, e2⟩ := hx.sh h0
  obtain ⟨j, e, hj⟩ := getS_some e1
  have hm := move_spec (i := j) (p := (p : Int)) h.wfs hj hpp
  rw [← e] at hm
  have W := (h.more (Nat.le_succ K)).ext (L' := (moveP H.M H.L x.sh p).2) (N' := H.N) (Nat.le_refl _) hm.1 h.nd (Nat.le_succ_of_le h.nl) h.nsz (move_nums h.nums) (fun _ _ e => moveP_stay e) (fun _ _ e => e)
  refine put_wf W ⟨hx.ok, hx.few, by have := hx.ep; show x.ep + 1 ≤ K + 1; omega, hp, fun h0' => ?_⟩ ?_
  · rcases hm.2 with ⟨k, f1, f2⟩ | ⟨f1, _⟩
    · refine ⟨ns, ?_, e2⟩
      show getS (moveP H.M H.L x.sh p).2 ((moveP H.M H.L x.sh p).1 : Int) = some ((p : Int), ns)
      rw [f1, getS_succ, f2]
    · exact absurd f1 h0'
  · intro o
    obtain ⟨k, hk⟩ := proto_ends (x' := { x with pr := p, ep := x.ep + 1, sh := (moveP H.M H.L x.sh p).1 }) h hi rfl hon o
    have e := upN_congr (H' := putI { H with L := (moveP H.M H.L x.sh p).2 } i { x with pr := p, ep := x.ep + 1, sh := (moveP H.M H.L x.sh p).1 }) (H := putI H i { x with pr := p, ep := x.ep + 1, sh := (moveP H.M H.L x.sh p).1 }) (fun _ => rfl) k o
    exact ⟨k, by rw [e]; exact hk⟩
theorem under_wf {K : Nat} {H : He} {i p : Nat} {x : Ob} (h : WfH K H) (hi : H.os[i]? = some x) (h0 : x.sh = 0) (hp : p ≤ H.os.length) (hon : onH H ((i + 1 : Nat) : Int) (p : Int) = false) :
    WfH (K + 1) (putI H i { x with pr := p, ep := x.ep + 1 }) := by
  have W := h.more (Nat.le_succ K)
  have hx := h.obs i x hi
  exact put_wf W ⟨hx.ok, hx.few, by have := hx.ep; show x.ep + 1 ≤ K + 1; omega, hp, fun h1 => absurd h0 h1⟩ (fun o => proto_ends W hi rfl (by exact hon) o)
theorem setAt_names (l : List Ent) (k : Nat) (u : Vl) : (setAt l k u).map (·.1) = l.map (·.1) ∧ (setAt l k u).length = l.length := by
  unfold setAt
  cases h : l[k]? with
  | none => exact ⟨rfl, rfl⟩
  | some e =>
    refine ⟨?_, by simp⟩
    rw [List.map_set]
    apply List.ext_getElem?
    intro j
    by_cases e' : j = k
    · subst e'
      rw [List.getElem?_set_self (by simpa using lt_of_get h), List.getElem?_map, h]
      rfl
    · rw [List.getElem?_set_ne (fun h => e' h.symm)]
theorem ok_names {l l' : List Ent} (h : OkL l) (e : l'.map (·.1) = l.map (·.1)) : OkL l' := by
  refine ⟨by unfold OnceL; rw [e]; exact h.1, fun y hy => ?_⟩
  have : y.1 ∈ l.map (·.1) := by rw [← e]; exact List.mem_map.2 ⟨y, hy, rfl⟩
  obtain ⟨z, hz, e2⟩ := List.mem_map.1 this
  rw [← e2]
  exact h.2 z hz
theorem putv_wf {K : Nat} {H : He} {i k : Nat} {x : Ob} (h : WfH K H) (hi : H.os[i]? = some x) (u : Vl) : WfH K (putI H i { x with l := setAt x.l k u }) := by
  have hx := h.obs i x hi
  obtain ⟨e1, e2⟩ := setAt_names x.l k u
  refine put_wf h ⟨ok_names hx.ok e1, by show (setAt x.l k u).length ≤ 32; rw [e2]; exact hx.few, hx.ep, hx.pr, fun h0 => ?_⟩ (put_ends h hi rfl)
  obtain ⟨ns, f1, f2⟩ := hx.sh h0
  exact ⟨ns, f1, by show (setAt x.l k u).map (·.1) = _; rw [e1]; exact f2⟩
/-- a child of an object's shape -/
theorem child_of {K : Nat} {H : He} {i : Nat} {x : Ob} (h : WfH K H) (hi : H.os[i]? = some x) (h0 : x.sh ≠ 0) {to : Int} (hp : parF H.L to = x.sh) :
    ∃ ns y, getS H.L to = some ((x.pr : Int), ns ++ [y]) ∧ getS H.L x.sh = some ((x.pr : Int), ns) ∧ x.l.map (·.1) = ns.map (textN H.N) ∧ lastN H to = textN H.N y ∧ hasL x.l (lastN H to) = false ∧ (lastN H to).size ≤ 1000000 ∧ 1 ≤ to := by
  obtain ⟨ns, e1, e2⟩ := (h.obs i x hi).sh h0
  unfold parF at hp
  cases hg : getS H.L to with
  | none => rw [hg] at hp; exact absurd hp.symm h0
  | some s =>
    rw [hg] at hp
    dsimp only at hp
    obtain ⟨j, rfl, hj⟩ := getS_some hg
    obtain ⟨p, ms⟩ := s
    rcases List.eq_nil_or_concat ms with rfl | ⟨ms', y, rfl⟩
    · rw [parS_root] at hp
      exact absurd hp.symm h0
    · rw [List.concat_eq_append] at hj hp hg ⊢
      obtain ⟨k, _, hk, he⟩ := h.wfs.par hj
      rw [he] at hp
      have e3 : getS H.L x.sh = some (p, ms') := by rw [← hp, getS_succ]; exact hk
      rw [e3] at e1
      injection e1 with e1
      injection e1 with e1 e4
      subst e4 e1
      have hl : lastN H ((j + 1 : Nat) : Int) = textN H.N y := by unfold lastN namesF; rw [hg]; simp
      have hy := h.nums j _ hj y (by simp)
      have hd := h.wfs.names j _ hj
      simp only [List.nodup_append] at hd
      have hno : hasL x.l (textN H.N y) = false := by
        cases hh : hasL x.l (textN H.N y) with
        | false => rfl
        | true =>
          obtain ⟨e, he, h1⟩ := hasL_iff.1 hh
          have hm : e.1 ∈ ms'.map (textN H.N) := by rw [← e2]; exact List.mem_map.2 ⟨e, he, rfl⟩
          obtain ⟨z, hz, h2⟩ := List.mem_map.1 hm
          have hz' := h.nums k _ hk z hz
          have := textN_inj h.nd hz' hy (h2.trans h1)
          exact absurd this (hd.2.2 z hz y (by simp))
      refine ⟨ms', y, rfl, e3, e2, hl, by rw [hl]; exact hno, ?_, by omega⟩
      rw [hl]
      obtain ⟨k', rfl⟩ : ∃ k' : Nat, y = ((k' + 1 : Nat) : Int) := ⟨(y - 1).toNat, by omega⟩
      have hk' : k' < H.N.length := by omega
      rw [textN_at (List.getElem?_eq_getElem hk')]
      exact h.nsz _ (List.getElem_mem hk')
theorem grow_wf {K : Nat} {H : He} {i : Nat} {x : Ob} (h : WfH K H) (hi : H.os[i]? = some x) (h0 : x.sh ≠ 0) {to : Int} (hp : parF H.L to = x.sh) (hl : x.l.length < H.props) (u : Vl) :
    WfH (K + 1) (putI H i { x with l := x.l ++ [(lastN H to, u)], ep := x.ep + 1, sh := to.toNat }) := by
  have W := h.more (Nat.le_succ K)
  have hx := h.obs i x hi
  obtain ⟨ns, y, e1, e2, e3, e4, e5, e6, e7⟩ := child_of h hi h0 hp
  refine put_wf W ⟨ok_more u e6 hx.ok e5, by have := h.props; simp; omega, by have := hx.ep; show x.ep + 1 ≤ K + 1; omega, hx.pr, fun _ => ⟨ns ++ [y], ?_, ?_⟩⟩ (put_ends W hi rfl)
  · show getS H.L ((to.toNat : Nat) : Int) = _
    rw [show ((to.toNat : Nat) : Int) = to by omega]
    exact e1
  · show (x.l ++ [(lastN H to, u)]).map (·.1) = _
    rw [List.map_append, e3, List.map_append, e4]
    rfl

end Go.Proofs.YtimhgbcanmgajaaGreat

namespace Go.Proofs.YtimhgbcanmgajaaGreat
set_option linter.unusedSimpArgs false
set_option maxRecDepth 100000
open Go.RowKit

theorem ivO_iface (x : Ob) (q : Nat) : ∃ T, ivO x q = .iface T (.pointer (some ⟨q, 0, none⟩)) := by
  unfold ivO
  split
  · exact ⟨_, rfl⟩
  · exact ⟨_, rfl⟩
/-- an object is another one, behind with, without, under -/
def Tnd (K i : Nat) (H : He) (H' : He) (x' : Ob) (h s c n f : Nat) (v : Value) (g q col : Nat → Nat) (w : World) (e : Ending) (w1 : World) : Prop :=
  ∃ (T : TypeId) (qi : Nat) (col' : Nat → Nat) (x : Ob), e = .returned (.iface T (.pointer (some ⟨qi, 0, none⟩))) ∧ H.os[i]? = some x ∧ x.ep ≤ K ∧ Blk (g i) 135 #[ivO x (q i), .int .i64 (x.ep : Int)] w1 ∧ (∀ b, col b = 0 → b < w.heap.size → w1.heap[b]? = w.heap[b]?) ∧ (∀ b, col b = 1 → b < w.heap.size → w1.heap[b]? = w.heap[b]?) ∧ w.heap.size ≤ w1.heap.size ∧
    HpAt (K + 1) (putI H' i x') h s c n f v g (upd q i qi) col' ((w1.setCell ⟨g i, 0, none⟩ (.iface T (.pointer (some ⟨qi, 0, none⟩)))).setCell ⟨g i, 1, none⟩ (.int .i64 ((x.ep + 1 : Nat) : Int))) ∧
    Keep (fun b => col b ≠ 0) w ((w1.setCell ⟨g i, 0, none⟩ (.iface T (.pointer (some ⟨qi, 0, none⟩)))).setCell ⟨g i, 1, none⟩ (.int .i64 ((x.ep + 1 : Nat) : Int))) ∧ ∀ b, b < w.heap.size → col' b = col b
theorem tnd_of {K i : Nat} {H H' : He} {x x' : Ob} {h s c n f : Nat} {v : Value} {g q col : Nat → Nat} {w w1 : World} {e : Ending} (p : HpAt K H h s c n f v g q col w) (hi : H.os[i]? = some x) (t : Turned (K + 1) H' c n f (4 + i) x' col w e w1) (hm : H'.most = H.most) (hp : H'.props = H.props) (ho : H'.os = H.os) (wf : WfH (K + 1) (putI H' i x')) (he : x'.ep = x.ep + 1) : Tnd K i H H' x' h s c n f v g q col w e w1 := by
  obtain ⟨qi, col', rfl, C, k, G⟩ := t
  obtain ⟨T, hT⟩ := ivO_iface x' qi
  obtain ⟨r1, r2, r3⟩ := p.turn hi C k G (Nat.le_succ _) hm hp ho wf he
  rw [hT] at r2 r3
  exact ⟨T, qi, col', x, by rw [hT], hi, (p.wf.obs i x hi).ep, r1, fun b hb hl => G.keep.block b hl (by rw [hb]; omega), fun b hb hl => G.keep.block b hl (by rw [hb]; omega), G.keep.size, r2, r3, G.old⟩
theorem tnd_done {S : Nat → Prop} {K : Nat} {H' : He} {h s c n f : Nat} {v : Value} {g q' col col' : Nat → Nat} {w w2 : World} (p : HpAt K H' h s c n f v g q' col' w2) (k : Keep (fun b => col b ≠ 0) w w2) (ho : ∀ b, b < w.heap.size → col' b = col b) (hS : ∀ b, col b ≠ 0 → S b) : HpZ (Up S w) K h s H' w2 ∧ Keep S w w2 := by
  refine ⟨⟨c, n, f, v, g, q', col', p, fun b hb => ?_⟩, k.mono (fun b _ e => hS b e)⟩
  by_cases hl : b < w.heap.size
  · exact .inl (hS b (by rw [← ho b hl]; exact hb))
  · exact .inr (by omega)
theorem hwith_slot {K : Nat} {H : He} {h s c n f i : Nat} {v : Value} {g q col : Nat → Nat} {x : Ob} (w : World) (p : HpAt K H h s c n f v g q col w) (hK : 40 ≤ K) (hK2 : K ≤ 900000) (hi : H.os[i]? = some x) (h0 : x.sh ≠ 0) (nm : ByteArray) (hn : nm.size ≤ 1000000) (hh : hasL x.l nm = false) (hl : x.l.length < H.props) (u : Vl) :
    Calls Tryz.prog 64 #[.iface 161 (.pointer (some ⟨q i, 0, none⟩)), .string nm, vlV u] w fun e w' => Tnd K i H (nextH H x.sh nm) { x with l := x.l ++ [(nm, u)], ep := x.ep + 1, sh := nextN H x.sh nm } h s c n f v g q col w e w' := by
  obtain ⟨vv, h1, h2⟩ := p.slotted hi h0
  obtain ⟨n1, n2, y, n3⟩ := p.named (by omega) hi h0
  refine (with_slot (J := K + 1) w p.cls p.one.2.2.1 p.top (by omega) h1 h2 n1 n3 n2 (p.wf.obs i x hi).ok (p.wf.obs i x hi).few (by have := p.wf.nl; omega) (by omega) nm hn hh u).mono ?_
  intro e w' t
  exact tnd_of p hi t (by unfold nextH; split <;> rfl) (by unfold nextH; split <;> rfl) next_stay.2.2.2.2 (set_wf p.wf hK2 hi nm hn hh hl u) rfl
theorem hwith_dict {K : Nat} {H : He} {h s c n f i : Nat} {v : Value} {g q col : Nat → Nat} {x : Ob} (w : World) (p : HpAt K H h s c n f v g q col w) (hK : 40 ≤ K) (hK2 : K ≤ 900000) (hi : H.os[i]? = some x) (h0 : x.sh = 0) (nm : ByteArray) (hn : nm.size ≤ 1000000) (hh : hasL x.l nm = false) (hl : x.l.length < H.props) (u : Vl) :
    Calls Tryz.prog 64 #[.iface 199 (.pointer (some ⟨q i, 0, none⟩)), .string nm, vlV u] w fun e w' => Tnd K i H (nextH H x.sh nm) { x with l := x.l ++ [(nm, u)], ep := x.ep + 1, sh := nextN H x.sh nm } h s c n f v g q col w e w' := by
  obtain ⟨m, h1, h2⟩ := p.dict hi h0
  have e1 : nextN H x.sh nm = 0 := by rw [h0]; unfold nextN; rw [getS_out (.inl (by omega))]
  have e2 : nextH H x.sh nm = H := by rw [h0]; unfold nextH; rw [getS_out (.inl (by omega))]
  have wf := set_wf p.wf hK2 hi nm hn hh hl u
  rw [e1, e2] at wf ⊢
  refine (with_dict w h1 (by omega) nm hn u).mono ?_
  rintro e w' ⟨rfl, k1, k2⟩
  rw [setL_new u hh] at k1
  exact tnd_of p hi (turned_dict (x' := { x with l := x.l ++ [(nm, u)], ep := x.ep + 1, sh := 0 }) (m := m + 1) p.cls p.one.2.2.1 (by omega) rfl k2 k1 (by omega)) rfl rfl rfl wf rfl
theorem hwithout_slot {K : Nat} {H : He} {h s c n f i : Nat} {v : Value} {g q col : Nat → Nat} {x : Ob} (w : World) (p : HpAt K H h s c n f v g q col w) (hK : 40 ≤ K) (hK2 : K ≤ 900000) (hi : H.os[i]? = some x) (h0 : x.sh ≠ 0) (nm : ByteArray) (hn : nm.size ≤ 1000000) :
    Calls Tryz.prog 65 #[.iface 161 (.pointer (some ⟨q i, 0, none⟩)), .string nm] w fun e w' => Tnd K i H H { x with l := dropL x.l nm, ep := x.ep + 1, sh := 0 } h s c n f v g q col w e w' := by
  obtain ⟨vv, h1, h2⟩ := p.slotted hi h0
  obtain ⟨n1, n2, y, n3⟩ := p.named (by omega) hi h0
  refine (without_slot (K := K + 1) (t := 4 + i) w p.cls p.one.2.2.1 p.top (by omega) h1 n1 n2 (p.wf.obs i x hi).ok (p.wf.obs i x hi).few (by omega) nm hn).mono ?_
  intro e w' t
  exact tnd_of p hi t rfl rfl rfl (del_wf p.wf hi nm) rfl
theorem hwithout_dict {K : Nat} {H : He} {h s c n f i : Nat} {v : Value} {g q col : Nat → Nat} {x : Ob} (w : World) (p : HpAt K H h s c n f v g q col w) (hK : 40 ≤ K) (hK2 : K ≤ 900000) (hi : H.os[i]? = some x) (h0 : x.sh = 0) (nm : ByteArray) (hn : nm.size ≤ 1000000) :
    Calls Tryz.prog 65 #[.iface 199 (.pointer (some ⟨q i, 0, none⟩)), .string nm] w fun e w' => Tnd K i H H { x with l := dropL x.l nm, ep := x.ep + 1, sh := 0 } h s c n f v g q col w e w' := by
  obtain ⟨m, h1, h2⟩ := p.dict hi h0
  refine (without_dict w h1 (by omega) nm hn).mono ?_
  rintro e w' ⟨rfl, k1, k2⟩
  exact tnd_of p hi (turned_dict (x' := { x with l := dropL x.l nm, ep := x.ep + 1, sh := 0 }) (m := m) p.cls p.one.2.2.1 (by omega) rfl k2 k1 (by omega)) rfl rfl rfl (del_wf p.wf hi nm) rfl
theorem hunder_slot {K : Nat} {H : He} {h s c n f i : Nat} {v : Value} {g q col : Nat → Nat} {x : Ob} (w : World) (p : HpAt K H h s c n f v g q col w) (hK : 40 ≤ K) (hK2 : K ≤ 900000) (hi : H.os[i]? = some x) (h0 : x.sh ≠ 0) (a : Nat) (ha : a ≤ H.os.length) (hon : onH H ((i + 1 : Nat) : Int) (a : Int) = false) :
    Calls Tryz.prog 67 #[.iface 161 (.pointer (some ⟨q i, 0, none⟩)), .int .i64 (a : Int)] w fun e w' => Tnd K i H { H with L := (moveP H.M H.L x.sh a).2 } { x with pr := a, ep := x.ep + 1, sh := (moveP H.M H.L x.sh a).1 } h s c n f v g q col w e w' := by
  obtain ⟨vv, h1, h2⟩ := p.slotted hi h0
  obtain ⟨n1, n2, y, n3⟩ := p.named (by omega) hi h0
  refine (under_slot (K := K + 1) w p.cls p.one.2.2.1 p.top (by omega) h1 h2 n1 n3 (p.wf.obs i x hi).ok (p.wf.obs i x hi).few (by omega) a (by have := p.wf.len; have := p.wf.most; omega)).mono ?_
  intro e w' t
  exact tnd_of p hi t rfl rfl rfl (move_wf p.wf hi h0 ha hon) rfl
theorem hunder_dict {K : Nat} {H : He} {h s c n f i : Nat} {v : Value} {g q col : Nat → Nat} {x : Ob} (w : World) (p : HpAt K H h s c n f v g q col w) (hi : H.os[i]? = some x) (h0 : x.sh = 0) (a : Nat) (ha : a ≤ H.os.length) (hon : onH H ((i + 1 : Nat) : Int) (a : Int) = false) :
    Calls Tryz.prog 67 #[.iface 199 (.pointer (some ⟨q i, 0, none⟩)), .int .i64 (a : Int)] w fun e w' => Tnd K i H H { x with pr := a, ep := x.ep + 1 } h s c n f v g q col w e w' := by
  obtain ⟨m, h1, h2⟩ := p.dict hi h0
  refine (under_dict w h1 (a : Int)).mono ?_
  rintro e w' ⟨rfl, k1, k2⟩
  exact tnd_of p hi (turned_dict (x' := { x with pr := a, ep := x.ep + 1 }) (m := m) p.cls p.one.2.2.1 (by omega) h0 k2 (k1.mono (fun _ _ e => .inl e) (Nat.le_refl _)) (by omega)) rfl rfl rfl (under_wf p.wf hi h0 ha hon) rfl

end Go.Proofs.YtimhgbcanmgajaaGreat
