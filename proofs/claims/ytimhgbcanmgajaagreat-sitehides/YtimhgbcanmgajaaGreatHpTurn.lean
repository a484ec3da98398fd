/- A heap in memory behind what changes it. -/
import Derived.Test.YtimhgbcanmgajaaGreatHpRead
import Derived.Test.YtimhgbcanmgajaaGreatJoint11
namespace Go.Proofs.YtimhgbcanmgajaaGreat
set_option linter.unusedSimpArgs false
set_option maxRecDepth 100000
open Go.RowKit

theorem hbecome_calls {T : TypeId} {g ep : Nat} {iv : Value} {a : Addr} (w : World) (h : Blk g 135 #[iv, .int .i64 (ep : Int)] w) (he : ep ≤ 1000000) :
    Calls Tryz.prog 63 #[.pointer (some ⟨g, 0, none⟩), .iface T (.pointer (some a))] w fun e w' => e = .returned (.tuple #[]) ∧ w' = (w.setCell ⟨g, 0, none⟩ (.iface T (.pointer (some a)))).setCell ⟨g, 1, none⟩ (.int .i64 ((ep + 1 : Nat) : Int)) := by
  have c0 : w.cell? ⟨g, 0, none⟩ = some iv := by rw [blk_cell h]; rfl
  have c1 : w.cell? ⟨g, 1, none⟩ = some (.int .i64 (ep : Int)) := by rw [blk_cell h]; rfl
  have f0 := blk_free h 0
  have f1 := blk_free h 1
  have hg := blk_lt h
  clear h
  go_enter Tryz.func63, Tryz.ntmps63
  go_wp2_with fail
  go_end0
  exact ⟨rfl, rfl⟩
/-- where an object's number leads, turned -/
theorem num_set {g ep : Nat} {iv jv : Value} {w : World} (h : Blk g 135 #[iv, .int .i64 (ep : Int)] w) : Blk g 135 #[jv, .int .i64 ((ep + 1 : Nat) : Int)] ((w.setCell ⟨g, 0, none⟩ jv).setCell ⟨g, 1, none⟩ (.int .i64 ((ep + 1 : Nat) : Int))) :=
  blk_set (blk_set h 0 jv) 1 (.int .i64 ((ep + 1 : Nat) : Int))
theorem num_keep (g : Nat) (jv kv : Value) (w : World) : Keep (fun b => b = g) w ((w.setCell ⟨g, 0, none⟩ jv).setCell ⟨g, 1, none⟩ kv) :=
  (Keep.set (S := fun b => b = g) rfl w 0 jv).trans (Keep.set (S := fun b => b = g) rfl _ 1 kv) (fun _ _ e => e)
/-- shapes and one object were changed: the rest is as it was -/
theorem HpAt.part {K J : Nat} {H H' : He} {h s c n f i qi : Nat} {v : Value} {g q col col' : Nat → Nat} {x' : Ob} {w w' : World} (p : HpAt K H h s c n f v g q col w) (hi : i < H.os.length)
    (C : Cls H' c n f col' w') (k : KeptO J c x' qi (fun b => col' b = 4 + i) w') (G : Grew (fun u => u = 2 ∨ u = 3 ∨ u = 4 + i) col col' w w') (hJ : K ≤ J) (hm : H'.most = H.most) (hp : H'.props = H.props) (ho : H'.os = H.os)
    (wf : WfH J (putI H' i x')) (bi : Blk (g i) 135 #[ivO x' qi, .int .i64 (x'.ep : Int)] w') : HpAt J (putI H' i x') h s c n f v g (upd q i qi) col' w' := by
  have o := p.one
  have hlt : ∀ y, col y ≠ 0 → y < w.heap.size := fun y hy => Nat.lt_of_not_le (fun h => hy (p.top y h))
  have n1 : ∀ y, col y = 1 → y < w.heap.size ∧ ¬ (col y = 2 ∨ col y = 3 ∨ col y = 4 + i) ∧ col' y = 1 := fun y e => ⟨hlt y (by omega), by omega, by rw [G.old y (hlt y (by omega))]; exact e⟩
  have hl : (putI H' i x').os.length = H.os.length := by unfold putI; simp [ho]
  refine ⟨wf, blk_keep p.bh G.keep (n1 _ o.1).2.1, ?_, ?_, ⟨C.blk, C.nm, C.fo⟩, ?_, ?_, ⟨(n1 _ o.1).2.2, (n1 _ o.2.1).2.2, (n1 _ o.2.2.1).2.2, fun b hb => (n1 _ (o.2.2.2 b hb)).2.2⟩, G.top⟩
  · have := blk_keep p.bs G.keep (n1 _ o.2.1).2.1
    show Blk s _ #[.int .i64 (H'.most : Int), .int .i64 (H'.props : Int), _, _] w'
    rw [hm, hp]
    exact this
  · rw [hl]
    exact row_keep p.row (fun b hb => G.keep.block b (n1 _ (o.2.2.2 b hb)).1 (n1 _ (o.2.2.2 b hb)).2.1)
  · intro j y hj
    have hj' : (H.os.set i x')[j]? = some y := by rw [← ho]; exact hj
    rcases set_get hj' with ⟨rfl, rfl, _⟩ | ⟨hne, hj'⟩
    · rw [upd_at]
      exact ⟨bi, k, by
        obtain ⟨y0, hy0⟩ : ∃ y0, H.os[j]? = some y0 := ⟨H.os[j], List.getElem?_eq_getElem hi⟩
        exact (n1 _ (p.ob j y0 hy0).2.2).2.2⟩
    · rw [upd_ne q qi hne]
      obtain ⟨b1, b2, b3⟩ := p.ob j y hj'
      exact ⟨blk_keep b1 G.keep (n1 _ b3).2.1, (b2.grew G (by omega)).mono (fun _ _ e => e) hJ, (n1 _ b3).2.2⟩
  · rw [hl]; exact p.gi
/-- .. and then where its number leads -/
theorem HpAt.turn {K J : Nat} {H H' : He} {h s c n f i qi : Nat} {v : Value} {g q col col' : Nat → Nat} {x x' : Ob} {w w1 : World} (p : HpAt K H h s c n f v g q col w) (hi : H.os[i]? = some x)
    (C : Cls H' c n f col' w1) (k : KeptO J c x' qi (fun b => col' b = 4 + i) w1) (G : Grew (fun u => u = 2 ∨ u = 3 ∨ u = 4 + i) col col' w w1) (hJ : K ≤ J) (hm : H'.most = H.most) (hp : H'.props = H.props) (ho : H'.os = H.os)
    (wf : WfH J (putI H' i x')) (he : x'.ep = x.ep + 1) :
    Blk (g i) 135 #[ivO x (q i), .int .i64 (x.ep : Int)] w1 ∧ HpAt J (putI H' i x') h s c n f v g (upd q i qi) col' ((w1.setCell ⟨g i, 0, none⟩ (ivO x' qi)).setCell ⟨g i, 1, none⟩ (.int .i64 ((x.ep + 1 : Nat) : Int))) ∧
      Keep (fun b => col b ≠ 0) w ((w1.setCell ⟨g i, 0, none⟩ (ivO x' qi)).setCell ⟨g i, 1, none⟩ (.int .i64 ((x.ep + 1 : Nat) : Int))) := by
  obtain ⟨b1, b2, b3⟩ := p.ob i x hi
  have hg := blk_lt b1
  have e1 : col' (g i) = 1 := (G.old _ hg).trans b3
  have bw := blk_keep b1 G.keep (by rw [b3]; omega)
  have hg1 := blk_lt bw
  have kk := num_keep (g i) (ivO x' qi) (.int .i64 ((x.ep + 1 : Nat) : Int)) w1
  have G2 : Grew (fun u => u = 1) col' col' w1 ((w1.setCell ⟨g i, 0, none⟩ (ivO x' qi)).setCell ⟨g i, 1, none⟩ (.int .i64 ((x.ep + 1 : Nat) : Int))) := ⟨fun _ _ => rfl, fun b hb => G.top b (Nat.le_trans kk.size hb), kk.mono (fun b _ e => by rw [e]; exact e1)⟩
  have nc : c ≠ g i := fun e => absurd (blk_type (e ▸ C.blk) bw) (by decide)
  have o := p.one
  have hlt : ∀ y, col y ≠ 0 → y < w.heap.size := fun y hy => Nat.lt_of_not_le (fun h => hy (p.top y h))
  have n1 : ∀ y, col y = 1 → y < w.heap.size ∧ ¬ (col y = 2 ∨ col y = 3 ∨ col y = 4 + i) ∧ col' y = 1 := fun y e => ⟨hlt y (by omega), by omega, by rw [G.old y (hlt y (by omega))]; exact e⟩
  have hl : (putI H' i x').os.length = H.os.length := by unfold putI; simp [ho]
  have W := blk_keep p.bh G.keep (n1 _ o.1).2.1
  have V := blk_keep p.bs G.keep (n1 _ o.2.1).2.1
  have R := row_keep p.row (fun b hb => G.keep.block b (n1 _ (o.2.2.2 b hb)).1 (n1 _ (o.2.2.2 b hb)).2.1)
  have kall : Keep (fun b => col b ≠ 0) w ((w1.setCell ⟨g i, 0, none⟩ (ivO x' qi)).setCell ⟨g i, 1, none⟩ (.int .i64 ((x.ep + 1 : Nat) : Int))) :=
    (G.keep.mono (fun b _ e => by rcases e with e | e | e <;> omega)).trans kk (fun b _ e => by rw [e, b3]; decide)
  refine ⟨bw, ⟨wf, blk_keep W kk (fun e => absurd (blk_type (e ▸ W) bw) (by decide)), ?_, ?_, ?_, ?_, ?_, ⟨(n1 _ o.1).2.2, (n1 _ o.2.1).2.2, (n1 _ o.2.2.1).2.2, fun b hb => (n1 _ (o.2.2.2 b hb)).2.2⟩, G2.top⟩, kall⟩
  · have := blk_keep V kk (fun e => absurd (blk_type (e ▸ V) bw) (by decide))
    show Blk s _ #[.int .i64 (H'.most : Int), .int .i64 (H'.props : Int), _, _] _
    rw [hm, hp]
    exact this
  · rw [hl]
    exact row_keep R (fun b hb => by
      obtain ⟨cur, hc⟩ := row_lt R hb
      exact kk.block b (blk_lt hc) (fun e => absurd (blk_type (e ▸ hc) bw) (by decide)))
  · have C2 := C.keep kk nc (fun y _ e hy => by rw [hy, e1] at e; omega)
    exact ⟨C2.blk, C2.nm, C2.fo⟩
  · intro j y hj
    have hj' : (H.os.set i x')[j]? = some y := by rw [← ho]; exact hj
    rcases set_get hj' with ⟨rfl, rfl, _⟩ | ⟨hne, hj'⟩
    · rw [upd_at, he]
      exact ⟨num_set bw, k.grew G2 (by omega), e1⟩
    · rw [upd_ne q qi hne]
      obtain ⟨d1, d2, d3⟩ := p.ob j y hj'
      have d1' := blk_keep d1 G.keep (n1 _ d3).2.1
      have gne : g j ≠ g i := fun e => hne (p.gi j i (lt_of_get hj') (lt_of_get hi) e)
      exact ⟨blk_keep d1' kk gne, ((d2.grew G (by omega)).mono (fun _ _ e => e) hJ).grew G2 (by omega), (n1 _ d3).2.2⟩
  · rw [hl]; exact p.gi

theorem HpAt.more {K J : Nat} {H : He} {h s c n f : Nat} {v : Value} {g q col : Nat → Nat} {w : World} (p : HpAt K H h s c n f v g q col w) (hJ : K ≤ J) : HpAt J H h s c n f v g q col w :=
  ⟨p.wf.more hJ, p.bh, p.bs, p.row, p.cls, fun i x hi => ⟨(p.ob i x hi).1, (p.ob i x hi).2.1.mono (fun _ _ e => e) hJ, (p.ob i x hi).2.2⟩, p.gi, p.one, p.top⟩
theorem HpZ.more {S : Nat → Prop} {K J h s : Nat} {H : He} {w : World} (p : HpZ S K h s H w) (hJ : K ≤ J) : HpZ S J h s H w := by
  obtain ⟨c, n, f, v, g, q, col, p, hs⟩ := p
  exact ⟨c, n, f, v, g, q, col, p.more hJ, hs⟩
theorem HpS.more {S : Nat → Prop} {K J h : Nat} {H : He} {w : World} (p : HpS S K h H w) (hJ : K ≤ J) : HpS S J h H w := by
  obtain ⟨s, c, n, f, v, g, q, col, p, hs⟩ := p
  exact ⟨s, c, n, f, v, g, q, col, p.more hJ, hs⟩
theorem putI_self {H : He} {i : Nat} {x : Ob} (hi : H.os[i]? = some x) : putI H i x = H := by
  unfold putI
  have : H.os.set i x = H.os := by
    apply List.ext_getElem?
    intro j
    by_cases e : j = i
    · subst e
      rw [List.getElem?_set_self (lt_of_get hi), hi]
    · rw [List.getElem?_set_ne (fun h => e h.symm)]
  rw [this]
theorem HpAt.dict {K : Nat} {H : He} {h s c n f : Nat} {v : Value} {g q col : Nat → Nat} {w : World} (p : HpAt K H h s c n f v g q col w) {i : Nat} {x : Ob} (hi : H.os[i]? = some x) (h0 : x.sh = 0) : ∃ m, DiS (fun b => col b = 4 + i) x.pr x.l (q i) m w ∧ m ≤ K + 12 := by
  rcases (p.ob i x hi).2.1 with ⟨h1, _⟩ | ⟨_, m, h1, h2⟩
  · exact absurd h0 h1
  · exact ⟨m, h1, h2⟩
/-- an object, changed in place -/
def Chg (K i : Nat) (H' : He) (h s c n f : Nat) (v : Value) (g q col : Nat → Nat) (w w' : World) : Prop := ∃ col', HpAt K H' h s c n f v g q col' w' ∧ Grew (fun u => u = 4 + i) col col' w w'
theorem chg_part {K J : Nat} {H : He} {h s c n f i : Nat} {v : Value} {g q col : Nat → Nat} {x x' : Ob} {w w' : World} (p : HpAt K H h s c n f v g q col w) (hi : H.os[i]? = some x) (hJ : K ≤ J) (he : x'.ep = x.ep) (hs : x'.sh = x.sh) (wf : WfH J (putI H i x'))
    (k : Keep (fun b => col b = 4 + i) w w') (kept : KeptO J c x' (q i) (Up (fun b => col b = 4 + i) w) w') : Chg J i (putI H i x') h s c n f v g q col w w' := by
  have G := grew_ext k
  obtain ⟨b1, b2, b3⟩ := p.ob i x hi
  have r := p.part (H' := H) (J := J) (x' := x') (qi := q i) (w' := w') (lt_of_get hi) (p.cls.grew (by rw [p.one.2.2.1]; omega) G (by omega) (by omega)) (kept.mono (fun b hb h => ext_new hb h) (Nat.le_refl _)) (G.mono (fun _ e => .inr (.inr e))) hJ rfl rfl rfl wf (by
    have := blk_keep b1 G.keep (by rw [b3]; omega)
    rw [he, show ivO x' (q i) = ivO x (q i) by unfold ivO; rw [hs]]
    exact this)
  have eq : upd q i (q i) = q := by funext j; unfold upd; split; rename_i e; rw [e]; rfl
  rw [eq] at r
  exact ⟨_, r, G⟩
theorem chg_wf {K : Nat} {H : He} {i : Nat} {x : Ob} (h : WfH K H) (hi : H.os[i]? = some x) (nm : ByteArray) (hn : nm.size ≤ 1000000) (hh : hasL x.l nm = true) (u : Vl) : WfH (K + 1) (putI H i { x with l := setL x.l nm u }) := by
  have W := h.more (Nat.le_succ K)
  refine put_wf W ?_ (put_ends W hi rfl)
  have hx := W.obs i x hi
  refine ⟨ok_set u hn hx.ok, by show (setL x.l nm u).length ≤ 32; rw [setL_len, hh, if_pos rfl]; exact hx.few, hx.ep, hx.pr, fun h0 => ?_⟩
  obtain ⟨ns, e1, e2⟩ := hx.sh h0
  exact ⟨ns, e1, by show (setL x.l nm u).map (·.1) = _; rw [setL_names u hh]; exact e2⟩
/-- what a change in place comes to -/
def ChgP (K i : Nat) (H : He) (x : Ob) (nm : ByteArray) (u : Vl) (h s c n f : Nat) (v : Value) (g q col : Nat → Nat) (w w' : World) : Prop :=
  (hasL x.l nm = true → Chg (K + 1) i (putI H i { x with l := setL x.l nm u }) h s c n f v g q col w w') ∧ (hasL x.l nm = false → Chg K i H h s c n f v g q col w w')
theorem change_slot {K : Nat} {H : He} {h s c n f i : Nat} {v : Value} {g q col : Nat → Nat} {x : Ob} (w : World) (p : HpAt K H h s c n f v g q col w) (hi : H.os[i]? = some x) (h0 : x.sh ≠ 0) (nm : ByteArray) (hn : nm.size ≤ 1000000) (u : Vl) :
    Calls Tryz.prog 198 #[.pointer (some ⟨q i, 0, none⟩), .string nm, vlV u] w fun e w' => e = .returned (.bool (hasL x.l nm)) ∧ ChgP K i H x nm u h s c n f v g q col w w' := by
  obtain ⟨vv, h1, h2⟩ := p.slotted hi h0
  refine (schange_calls w p.cls h1 nm hn u).mono ?_
  rintro e w' ⟨rfl, k1, k2⟩
  obtain ⟨e1, e2⟩ := p.slot hi h0 nm
  refine ⟨by rw [e1]; rfl, fun hh => ?_, fun hh => ?_⟩
  · rw [e2 u hh] at k1
    exact chg_part (x' := { x with l := setL x.l nm u }) p hi (Nat.le_succ _) rfl rfl (chg_wf p.wf hi nm hn hh u) (k2.mono (fun b _ e => h2 b e)) (.inl ⟨h0, vv, k1, fun b hb => .inl (h2 b hb)⟩)
  · rw [putL_none u (by rw [e1]; unfold hasL at hh; simpa using hh)] at k1
    have r := chg_part (x' := x) p hi (Nat.le_refl _) rfl rfl (by rw [putI_self hi]; exact p.wf) (k2.mono (fun b _ e => h2 b e)) (.inl ⟨h0, vv, k1, fun b hb => .inl (h2 b hb)⟩)
    rw [putI_self hi] at r
    exact r
theorem change_dict {K : Nat} {H : He} {h s c n f i : Nat} {v : Value} {g q col : Nat → Nat} {x : Ob} (w : World) (p : HpAt K H h s c n f v g q col w) (hK : K ≤ 900000) (hi : H.os[i]? = some x) (h0 : x.sh = 0) (nm : ByteArray) (hn : nm.size ≤ 1000000) (u : Vl) :
    Calls Tryz.prog 200 #[.pointer (some ⟨q i, 0, none⟩), .string nm, vlV u] w fun e w' => e = .returned (.bool (hasL x.l nm)) ∧ ChgP K i H x nm u h s c n f v g q col w w' := by
  obtain ⟨m, h1, h2⟩ := p.dict hi h0
  refine (dchange_calls w h1 (by omega) nm hn u).mono ?_
  rintro e w' ⟨rfl, k1, k2⟩
  refine ⟨rfl, fun hh => ?_, fun hh => ?_⟩
  · rw [hh, if_pos rfl, if_pos rfl] at k1
    exact chg_part (x' := { x with l := setL x.l nm u }) p hi (Nat.le_succ _) rfl rfl (chg_wf p.wf hi nm hn hh u) k2 (.inr ⟨h0, m + 1, k1, by omega⟩)
  · rw [hh, if_neg (by simp), if_neg (by simp)] at k1
    have r := chg_part (x' := x) p hi (Nat.le_refl _) rfl rfl (by rw [putI_self hi]; exact p.wf) k2 (.inr ⟨h0, m, k1, h2⟩)
    rw [putI_self hi] at r
    exact r
/-- behind it, as a heap in the blocks of S -/
theorem Chg.done {S : Nat → Prop} {K i : Nat} {H' : He} {h s c n f : Nat} {v : Value} {g q col : Nat → Nat} {w w' : World} (h1 : Chg K i H' h s c n f v g q col w w') (hS : ∀ b, col b ≠ 0 → S b) : HpZ (Up S w) K h s H' w' ∧ Keep S w w' := by
  obtain ⟨col', p, G⟩ := h1
  refine ⟨⟨c, n, f, v, g, q, col', p, fun b hb => ?_⟩, G.keep.mono (fun b _ e => hS b (by omega))⟩
  by_cases hl : b < w.heap.size
  · exact .inl (hS b (by rw [← G.old b hl]; exact hb))
  · exact .inr (by omega)
theorem turned_dict {J : Nat} {H : He} {c n f t q m : Nat} {col : Nat → Nat} {x' : Ob} {w w' : World} (C : Cls H c n f col w) (hc : col c = 1) (h4 : 4 ≤ t) (h0 : x'.sh = 0) (k : Keep (fun b => col b = t) w w') (h : DiS (Up (fun b => col b = t) w) x'.pr x'.l q m w') (hm : m ≤ J + 12) :
    Turned J H c n f t x' col w (.returned (.iface 199 (.pointer (some ⟨q, 0, none⟩)))) w' := by
  have G := grew_ext k
  exact ⟨q, _, by unfold ivO; rw [if_pos h0], C.grew (by rw [hc]; omega) G (by omega) (by omega), .inr ⟨h0, m, h.mono (fun b hb e => ext_new hb e) (Nat.le_refl _), hm⟩, G.mono (fun _ e => .inr (.inr e))⟩

end Go.Proofs.YtimhgbcanmgajaaGreat
