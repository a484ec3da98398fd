/- A heap in memory behind what changes it. A heap as text. A property more, one less, another prototype: of an object of a heap. -/
import Derived.Test.YtemidicgipebjaaGreatHpRead
import Derived.Test.YtemidicgipebjaaGreatJoint10
import Derived.Test.YtemidicgipebjaaGreatJoint11
import Derived.Test.YtemidicgipebjaaGreatJoint1
namespace Go.Proofs.YtemidicgipebjaaGreat
set_option linter.unusedSimpArgs false
set_option maxRecDepth 100000
open Go.RowKit

theorem hbecome_calls {T : TypeId} {g ep : Nat} {iv : Value} {a : Addr} (w : World) (h : Blk g 97 #[iv, .int .i64 (ep : Int)] w) (he : ep ≤ 1000000) :
    Calls Tryz.prog 57 #[.pointer (some ⟨g, 0, none⟩), .iface T (.pointer (some a))] w fun e w' => e = .returned (.tuple #[]) ∧ w' = (w.setCell ⟨g, 0, none⟩ (.iface T (.pointer (some a)))).setCell ⟨g, 1, none⟩ (.int .i64 ((ep + 1 : Nat) : Int)) := by
  have c0 : w.cell? ⟨g, 0, none⟩ = some iv := by rw [blk_cell h]; rfl
  have c1 : w.cell? ⟨g, 1, none⟩ = some (.int .i64 (ep : Int)) := by rw [blk_cell h]; rfl
  have f0 := blk_free h 0
  have f1 := blk_free h 1
  have hg := blk_lt h
  clear h
  go_enter Tryz.func57, Tryz.ntmps57
  go_wp2_with fail
  go_end0
  exact ⟨rfl, rfl⟩
/-- where an object's number leads, turned -/
theorem num_set {g ep : Nat} {iv jv : Value} {w : World} (h : Blk g 97 #[iv, .int .i64 (ep : Int)] w) : Blk g 97 #[jv, .int .i64 ((ep + 1 : Nat) : Int)] ((w.setCell ⟨g, 0, none⟩ jv).setCell ⟨g, 1, none⟩ (.int .i64 ((ep + 1 : Nat) : Int))) :=
  blk_set (blk_set h 0 jv) 1 (.int .i64 ((ep + 1 : Nat) : Int))
theorem num_keep (g : Nat) (jv kv : Value) (w : World) : Keep (fun b => b = g) w ((w.setCell ⟨g, 0, none⟩ jv).setCell ⟨g, 1, none⟩ kv) :=
  (Keep.set (S := fun b => b = g) rfl w 0 jv).trans (Keep.set (S := fun b => b = g) rfl _ 1 kv) (fun _ _ e => e)
/-- shapes and one object were changed: the rest is as it was -/
theorem HpAt.part {K J : Nat} {H H' : He} {h s c n f i qi : Nat} {v : Value} {g q col col' : Nat → Nat} {x' : Ob} {w w' : World} (p : HpAt K H h s c n f v g q col w) (hi : i < H.os.length)
    (C : Cls H' c n f col' w') (k : KeptO J c x' qi (fun b => col' b = 4 + i) w') (G : Grew (fun u => u = 2 ∨ u = 3 ∨ u = 4 + i) col col' w w') (hJ : K ≤ J) (hm : H'.most = H.most) (hp : H'.props = H.props) (ho : H'.os = H.os)
    (wf : WfH J (putI H' i x')) (bi : Blk (g i) 97 #[ivO x' qi, .int .i64 (x'.ep : Int)] w') : HpAt J (putI H' i x') h s c n f v g (upd q i qi) col' w' := by
  have o := p.one
  have hlt : ∀ y, col y ≠ 0 → y < w.heap.size := fun y hy => Nat.lt_of_not_le (fun h => hy (p.top y h))
  have n1 : ∀ y, col y = 1 → y < w.heap.size ∧ ¬ (col y = 2 ∨ col y = 3 ∨ col y = 4 + i) ∧ col' y = 1 := fun y e => ⟨hlt y (by omega), by omega, by rw [G.old y (hlt y (by omega))]; exact e⟩
  have hl : (putI H' i x').os.length = H.os.length := by unfold putI; simp [ho]
  refine ⟨wf, blk_keep p.bh G.keep (n1 _ o.1).2.1, ?_, ?_, ⟨C.blk, C.nm, C.fo⟩, ?_, ?_, ⟨(n1 _ o.1).2.2, (n1 _ o.2.1).2.2, (n1 _ o.2.2.1).2.2, fun b hb => (n1 _ (o.2.2.2 b hb)).2.2⟩, G.top⟩
  · have := blk_keep p.bs G.keep (n1 _ o.2.1).2.1
    show Blk s _ #[.int .i64 (H'.most : Int), .int .i64 (H'.props : Int), _, _] w'
    rw [hm, hp]
    exact this
  · rw [hl]
    exact row_keep p.row (fun b hb => G.keep.block b (n1 _ (o.2.2.2 b hb)).1 (n1 _ (o.2.2.2 b hb)).2.1)
  · intro j y hj
    have hj' : (H.os.set i x')[j]? = some y := by rw [← ho]; exact hj
    rcases set_get hj' with ⟨rfl, rfl, _⟩ | ⟨hne, hj'⟩
    · rw [upd_at]
      exact ⟨bi, k, by
        obtain ⟨y0, hy0⟩ : ∃ y0, H.os[j]? = some y0 := ⟨H.os[j], List.getElem?_eq_getElem hi⟩
        exact (n1 _ (p.ob j y0 hy0).2.2).2.2⟩
    · rw [upd_ne q qi hne]
      obtain ⟨b1, b2, b3⟩ := p.ob j y hj'
      exact ⟨blk_keep b1 G.keep (n1 _ b3).2.1, (b2.grew G (by omega)).mono (fun _ _ e => e) hJ, (n1 _ b3).2.2⟩
  · rw [hl]; exact p.gi
/-- .. and then where its number leads -/
theorem HpAt.turn {K J : Nat} {H H' : He} {h s c n f i qi : Nat} {v : Value} {g q col col' : Nat → Nat} {x x' : Ob} {w w1 : World} (p : HpAt K H h s c n f v g q col w) (hi : H.os[i]? = some x)
    (C : Cls H' c n f col' w1) (k : KeptO J c x' qi (fun b => col' b = 4 + i) w1) (G : Grew (fun u => u = 2 ∨ u = 3 ∨ u = 4 + i) col col' w w1) (hJ : K ≤ J) (hm : H'.most = H.most) (hp : H'.props = H.props) (ho : H'.os = H.os)
    (wf : WfH J (putI H' i x')) (he : x'.ep = x.ep + 1) :
    Blk (g i) 97 #[ivO x (q i), .int .i64 (x.ep : Int)] w1 ∧ HpAt J (putI H' i x') h s c n f v g (upd q i qi) col' ((w1.setCell ⟨g i, 0, none⟩ (ivO x' qi)).setCell ⟨g i, 1, none⟩ (.int .i64 ((x.ep + 1 : Nat) : Int))) ∧
      Keep (fun b => col b ≠ 0) w ((w1.setCell ⟨g i, 0, none⟩ (ivO x' qi)).setCell ⟨g i, 1, none⟩ (.int .i64 ((x.ep + 1 : Nat) : Int))) := by
  obtain ⟨b1, b2, b3⟩ := p.ob i x hi
  have hg := blk_lt b1
  have e1 : col' (g i) = 1 := (G.old _ hg).trans b3
  have bw := blk_keep b1 G.keep (by rw [b3]; omega)
  have hg1 := blk_lt bw
  have kk := num_keep (g i) (ivO x' qi) (.int .i64 ((x.ep + 1 : Nat) : Int)) w1
  have G2 : Grew (fun u => u = 1) col' col' w1 ((w1.setCell ⟨g i, 0, none⟩ (ivO x' qi)).setCell ⟨g i, 1, none⟩ (.int .i64 ((x.ep + 1 : Nat) : Int))) := ⟨fun _ _ => rfl, fun b hb => G.top b (Nat.le_trans kk.size hb), kk.mono (fun b _ e => by rw [e]; exact e1)⟩
  have nc : c ≠ g i := fun e => absurd (blk_type (e ▸ C.blk) bw) (by decide)
  have o := p.one
  have hlt : ∀ y, col y ≠ 0 → y < w.heap.size := fun y hy => Nat.lt_of_not_le (fun h => hy (p.top y h))
  have n1 : ∀ y, col y = 1 → y < w.heap.size ∧ ¬ (col y = 2 ∨ col y = 3 ∨ col y = 4 + i) ∧ col' y = 1 := fun y e => ⟨hlt y (by omega), by omega, by rw [G.old y (hlt y (by omega))]; exact e⟩
  have hl : (putI H' i x').os.length = H.os.length := by unfold putI; simp [ho]
  have W := blk_keep p.bh G.keep (n1 _ o.1).2.1
  have V := blk_keep p.bs G.keep (n1 _ o.2.1).2.1
  have R := row_keep p.row (fun b hb => G.keep.block b (n1 _ (o.2.2.2 b hb)).1 (n1 _ (o.2.2.2 b hb)).2.1)
  have kall : Keep (fun b => col b ≠ 0) w ((w1.setCell ⟨g i, 0, none⟩ (ivO x' qi)).setCell ⟨g i, 1, none⟩ (.int .i64 ((x.ep + 1 : Nat) : Int))) :=
    (G.keep.mono (fun b _ e => by rcases e with e | e | e <;> omega)).trans kk (fun b _ e => by rw [e, b3]; decide)
  refine ⟨bw, ⟨wf, blk_keep W kk (fun e => absurd (blk_type (e ▸ W) bw) (by decide)), ?_, ?_, ?_, ?_, ?_, ⟨(n1 _ o.1).2.2, (n1 _ o.2.1).2.2, (n1 _ o.2.2.1).2.2, fun b hb => (n1 _ (o.2.2.2 b hb)).2.2⟩, G2.top⟩, kall⟩
  · have := blk_keep V kk (fun e => absurd (blk_type (e ▸ V) bw) (by decide))
    show Blk s _ #[.int .i64 (H'.most : Int), .int .i64 (H'.props : Int), _, _] _
    rw [hm, hp]
    exact this
  · rw [hl]
    exact row_keep R (fun b hb => by
      obtain ⟨cur, hc⟩ := row_lt R hb
      exact kk.block b (blk_lt hc) (fun e => absurd (blk_type (e ▸ hc) bw) (by decide)))
  · have C2 := C.keep kk nc (fun y _ e hy => by rw [hy, e1] at e; omega)
    exact ⟨C2.blk, C2.nm, C2.fo⟩
  · intro j y hj
    have hj' : (H.os.set i x')[j]? = some y := by rw [← ho]; exact hj
    rcases set_get hj' with ⟨rfl, rfl, _⟩ | ⟨hne, hj'⟩
    · rw [upd_at, he]
      exact ⟨num_set bw, k.grew G2 (by omega), e1⟩
    · rw [upd_ne q qi hne]
      obtain ⟨d1, d2, d3⟩ := p.ob j y hj'
      have d1' := blk_keep d1 G.keep (n1 _ d3).2.1
      have gne : g j ≠ g i := fun e => hne (p.gi j i (lt_of_get hj') (lt_of_get hi) e)
      exact ⟨blk_keep d1' kk gne, ((d2.grew G (by omega)).mono (fun _ _ e => e) hJ).grew G2 (by omega), (n1 _ d3).2.2⟩
  · rw [hl]; exact p.gi

theorem HpAt.more {K J : Nat} {H : He} {h s c n f : Nat} {v : Value} {g q col : Nat → Nat} {w : World} (p : HpAt K H h s c n f v g q col w) (hJ : K ≤ J) : HpAt J H h s c n f v g q col w :=
  ⟨p.wf.more hJ, p.bh, p.bs, p.row, p.cls, fun i x hi => ⟨(p.ob i x hi).1, (p.ob i x hi).2.1.mono (fun _ _ e => e) hJ, (p.ob i x hi).2.2⟩, p.gi, p.one, p.top⟩
theorem HpS.more {S : Nat → Prop} {K J h : Nat} {H : He} {w : World} (p : HpS S K h H w) (hJ : K ≤ J) : HpS S J h H w := by
  obtain ⟨s, c, n, f, v, g, q, col, p, hs⟩ := p
  exact ⟨s, c, n, f, v, g, q, col, p.more hJ, hs⟩
theorem putI_self {H : He} {i : Nat} {x : Ob} (hi : H.os[i]? = some x) : putI H i x = H := by
  unfold putI
  have : H.os.set i x = H.os := by
    apply List.ext_getElem?
    intro j
    by_cases e : j = i
    · subst e
      rw [List.getElem?_set_self (lt_of_get hi), hi]
    · rw [List.getElem?_set_ne (fun h => e h.symm)]
  rw [this]
theorem HpAt.dict {K : Nat} {H : He} {h s c n f : Nat} {v : Value} {g q col : Nat → Nat} {w : World} (p : HpAt K H h s c n f v g q col w) {i : Nat} {x : Ob} (hi : H.os[i]? = some x) (h0 : x.sh = 0) : ∃ m, DiS (fun b => col b = 4 + i) x.pr x.l (q i) m w ∧ m ≤ K + 12 := by
  rcases (p.ob i x hi).2.1 with ⟨h1, _⟩ | ⟨_, m, h1, h2⟩
  · exact absurd h0 h1
  · exact ⟨m, h1, h2⟩
/-- an object, changed in place -/
def Chg (K i : Nat) (H' : He) (h s c n f : Nat) (v : Value) (g q col : Nat → Nat) (w w' : World) : Prop := ∃ col', HpAt K H' h s c n f v g q col' w' ∧ Grew (fun u => u = 4 + i) col col' w w'
theorem chg_part {K J : Nat} {H : He} {h s c n f i : Nat} {v : Value} {g q col : Nat → Nat} {x x' : Ob} {w w' : World} (p : HpAt K H h s c n f v g q col w) (hi : H.os[i]? = some x) (hJ : K ≤ J) (he : x'.ep = x.ep) (hs : x'.sh = x.sh) (wf : WfH J (putI H i x'))
    (k : Keep (fun b => col b = 4 + i) w w') (kept : KeptO J c x' (q i) (Up (fun b => col b = 4 + i) w) w') : Chg J i (putI H i x') h s c n f v g q col w w' := by
  have G := grew_ext k
  obtain ⟨b1, b2, b3⟩ := p.ob i x hi
  have r := p.part (H' := H) (J := J) (x' := x') (qi := q i) (w' := w') (lt_of_get hi) (p.cls.grew (by rw [p.one.2.2.1]; omega) G (by omega) (by omega)) (kept.mono (fun b hb h => ext_new hb h) (Nat.le_refl _)) (G.mono (fun _ e => .inr (.inr e))) hJ rfl rfl rfl wf (by
    have := blk_keep b1 G.keep (by rw [b3]; omega)
    rw [he, show ivO x' (q i) = ivO x (q i) by unfold ivO; rw [hs]]
    exact this)
  have eq : upd q i (q i) = q := by funext j; unfold upd; split; rename_i e; rw [e]; rfl
  rw [eq] at r
  exact ⟨_, r, G⟩
theorem chg_wf {K : Nat} {H : He} {i : Nat} {x : Ob} (h : WfH K H) (hi : H.os[i]? = some x) (nm : ByteArray) (hn : nm.size ≤ 1000000) (hh : hasL x.l nm = true) (u : Vl) : WfH (K + 1) (putI H i { x with l := setL x.l nm u }) := by
  have W := h.more (Nat.le_succ K)
  refine put_wf W ?_ (put_ends W hi rfl)
  have hx := W.obs i x hi
  refine ⟨ok_set u hn hx.ok, by show (setL x.l nm u).length ≤ 32; rw [setL_len, hh, if_pos rfl]; exact hx.few, hx.ep, hx.pr, fun h0 => ?_⟩
  obtain ⟨ns, e1, e2⟩ := hx.sh h0
  exact ⟨ns, e1, by show (setL x.l nm u).map (·.1) = _; rw [setL_names u hh]; exact e2⟩
/-- what a change in place comes to -/
def ChgP (K i : Nat) (H : He) (x : Ob) (nm : ByteArray) (u : Vl) (h s c n f : Nat) (v : Value) (g q col : Nat → Nat) (w w' : World) : Prop :=
  (hasL x.l nm = true → Chg (K + 1) i (putI H i { x with l := setL x.l nm u }) h s c n f v g q col w w') ∧ (hasL x.l nm = false → Chg K i H h s c n f v g q col w w')
theorem change_slot {K : Nat} {H : He} {h s c n f i : Nat} {v : Value} {g q col : Nat → Nat} {x : Ob} (w : World) (p : HpAt K H h s c n f v g q col w) (hi : H.os[i]? = some x) (h0 : x.sh ≠ 0) (nm : ByteArray) (hn : nm.size ≤ 1000000) (u : Vl) :
    Calls Tryz.prog 160 #[.pointer (some ⟨q i, 0, none⟩), .string nm, vlV u] w fun e w' => e = .returned (.bool (hasL x.l nm)) ∧ ChgP K i H x nm u h s c n f v g q col w w' := by
  obtain ⟨vv, h1, h2⟩ := p.slotted hi h0
  refine (schange_calls w p.cls h1 nm hn u).mono ?_
  rintro e w' ⟨rfl, k1, k2⟩
  obtain ⟨e1, e2⟩ := p.slot hi h0 nm
  refine ⟨by rw [e1]; rfl, fun hh => ?_, fun hh => ?_⟩
  · rw [e2 u hh] at k1
    exact chg_part (x' := { x with l := setL x.l nm u }) p hi (Nat.le_succ _) rfl rfl (chg_wf p.wf hi nm hn hh u) (k2.mono (fun b _ e => h2 b e)) (.inl ⟨h0, vv, k1, fun b hb => .inl (h2 b hb)⟩)
  · rw [putL_none u (by rw [e1]; unfold hasL at hh; simpa using hh)] at k1
    have r := chg_part (x' := x) p hi (Nat.le_refl _) rfl rfl (by rw [putI_self hi]; exact p.wf) (k2.mono (fun b _ e => h2 b e)) (.inl ⟨h0, vv, k1, fun b hb => .inl (h2 b hb)⟩)
    rw [putI_self hi] at r
    exact r
theorem change_dict {K : Nat} {H : He} {h s c n f i : Nat} {v : Value} {g q col : Nat → Nat} {x : Ob} (w : World) (p : HpAt K H h s c n f v g q col w) (hK : K ≤ 900000) (hi : H.os[i]? = some x) (h0 : x.sh = 0) (nm : ByteArray) (hn : nm.size ≤ 1000000) (u : Vl) :
    Calls Tryz.prog 163 #[.pointer (some ⟨q i, 0, none⟩), .string nm, vlV u] w fun e w' => e = .returned (.bool (hasL x.l nm)) ∧ ChgP K i H x nm u h s c n f v g q col w w' := by
  obtain ⟨m, h1, h2⟩ := p.dict hi h0
  refine (dchange_calls w h1 (by omega) nm hn u).mono ?_
  rintro e w' ⟨rfl, k1, k2⟩
  refine ⟨rfl, fun hh => ?_, fun hh => ?_⟩
  · rw [hh, if_pos rfl, if_pos rfl] at k1
    exact chg_part (x' := { x with l := setL x.l nm u }) p hi (Nat.le_succ _) rfl rfl (chg_wf p.wf hi nm hn hh u) k2 (.inr ⟨h0, m + 1, k1, by omega⟩)
  · rw [hh, if_neg (by simp), if_neg (by simp)] at k1
    have r := chg_part (x' := x) p hi (Nat.le_refl _) rfl rfl (by rw [putI_self hi]; exact p.wf) k2 (.inr ⟨h0, m, k1, h2⟩)
    rw [putI_self hi] at r
    exact r
/-- behind it, as a heap in the blocks of S -/
theorem Chg.done {S : Nat → Prop} {K i : Nat} {H' : He} {h s c n f : Nat} {v : Value} {g q col : Nat → Nat} {w w' : World} (h1 : Chg K i H' h s c n f v g q col w w') (hS : ∀ b, col b ≠ 0 → S b) : HpS (Up S w) K h H' w' ∧ Keep S w w' := by
  obtain ⟨col', p, G⟩ := h1
  refine ⟨⟨s, c, n, f, v, g, q, col', p, fun b hb => ?_⟩, G.keep.mono (fun b _ e => hS b (by omega))⟩
  by_cases hl : b < w.heap.size
  · exact .inl (hS b (by rw [← G.old b hl]; exact hb))
  · exact .inr (by omega)
theorem turned_dict {J : Nat} {H : He} {c n f t q m : Nat} {col : Nat → Nat} {x' : Ob} {w w' : World} (C : Cls H c n f col w) (hc : col c = 1) (h4 : 4 ≤ t) (h0 : x'.sh = 0) (k : Keep (fun b => col b = t) w w') (h : DiS (Up (fun b => col b = t) w) x'.pr x'.l q m w') (hm : m ≤ J + 12) :
    Turned J H c n f t x' col w (.returned (.iface 133 (.pointer (some ⟨q, 0, none⟩)))) w' := by
  have G := grew_ext k
  exact ⟨q, _, by unfold ivO; rw [if_pos h0], C.grew (by rw [hc]; omega) G (by omega) (by omega), .inr ⟨h0, m, h.mono (fun b hb e => ext_new hb e) (Nat.le_refl _), hm⟩, G.mono (fun _ e => .inr (.inr e))⟩

end Go.Proofs.YtemidicgipebjaaGreat

namespace Go.Proofs.YtemidicgipebjaaGreat
set_option linter.unusedSimpArgs false
open Go.RowKit

def bys (s : ByteArray) : List UInt8 := s.data.toList
def entT (e : Ent) : List UInt8 := 32 :: bys e.1 ++ 58 :: printB e.2.1 e.2.2.1 (bys e.2.2.2)
def entsT (l : List Ent) : List UInt8 := l.flatMap entT
def obT (k : Nat) (x : Ob) : List UInt8 := (35 :: digs ((k + 1 : Nat) : Int)) ++ [32] ++ (35 :: digs (x.pr : Int)) ++ entsT x.l ++ [10]
def dumpL : Nat → List Ob → List UInt8
  | _, [] => []
  | k, x :: r => obT k x ++ dumpL (k + 1) r
def dumpT (H : He) : List UInt8 := dumpL 0 H.os
theorem dumpL_snoc : ∀ (l : List Ob) (k : Nat) (x : Ob), dumpL k (l ++ [x]) = dumpL k l ++ obT (k + l.length) x
  | [], k, x => by simp [dumpL]
  | y :: r, k, x => by
    rw [List.cons_append, dumpL, dumpL_snoc r (k + 1) x, dumpL, List.append_assoc, List.length_cons, show k + 1 + r.length = k + (r.length + 1) by omega]
theorem dump_take {H : He} {k : Nat} {x : Ob} (h : H.os[k]? = some x) : dumpL 0 (H.os.take (k + 1)) = dumpL 0 (H.os.take k) ++ obT k x := by
  rw [List.take_add_one, h, show (some x).toList = [x] from rfl, dumpL_snoc]
  have := lt_of_get h
  rw [List.length_take, show 0 + min k H.os.length = k by omega]
theorem ents_take {l : List Ent} {k : Nat} {e : Ent} (h : l[k]? = some e) : entsT (l.take (k + 1)) = entsT (l.take k) ++ entT e := by
  unfold entsT
  rw [List.take_add_one, h, show (some e).toList = [e] from rfl, List.flatMap_append]
  simp
/-- values that fit -/
def VFit (v : Vl) : Prop := I64 v.2.1 ∧ v.2.2.size ≤ 1000000
def LFit (l : List Ent) : Prop := ∀ e ∈ l, VFit e.2
def HFit (H : He) : Prop := ∀ (i : Nat) (x : Ob), H.os[i]? = some x → LFit x.l
theorem setL_mem : ∀ {l : List Ent} {s : ByteArray} {v : Vl} {e : Ent}, e ∈ setL l s v → e ∈ l ∨ e.2 = v
  | [], s, v, e, h => by
    simp [setL] at h
    exact .inr (by rw [h])
  | (t, u) :: r, s, v, e, h => by
    unfold setL at h
    split at h
    · simp at h
      rcases h with h | h
      · exact .inr (by rw [h])
      · exact .inl (by simp [h])
    · simp at h
      rcases h with h | h
      · exact .inl (by simp [h])
      · rcases setL_mem h with h | h
        · exact .inl (by simp [h])
        · exact .inr h
theorem lfit_set {l : List Ent} {s : ByteArray} {v : Vl} (h : LFit l) (hv : VFit v) : LFit (setL l s v) := fun e he => by
  rcases setL_mem he with h1 | h1
  · exact h e h1
  · rw [h1]; exact hv
theorem lfit_more {l : List Ent} {s : ByteArray} {v : Vl} (h : LFit l) (hv : VFit v) : LFit (l ++ [(s, v)]) := fun e he => by
  simp at he
  rcases he with h1 | h1
  · exact h e h1
  · rw [h1]; exact hv
theorem lfit_drop {l : List Ent} {s : ByteArray} (h : LFit l) : LFit (dropL l s) := fun e he => h e (List.mem_filter.1 he).1
theorem lfit_at {l : List Ent} {k : Nat} {v : Vl} (h : LFit l) (hv : VFit v) : LFit (setAt l k v) := fun e he => by
  unfold setAt at he
  split at he
  · rcases List.mem_or_eq_of_mem_set he with h1 | h1
    · exact h e h1
    · rw [h1]; exact hv
  · exact h e he
theorem hfit_put {H : He} {i : Nat} {x : Ob} (h : HFit H) (hx : LFit x.l) : HFit (putI H i x) := fun j y hj => by
  rcases set_get hj with ⟨_, rfl, _⟩ | ⟨_, hj⟩
  · exact hx
  · exact h j y hj
theorem hfit_os {H H' : He} (h : HFit H) (e : H'.os = H.os) : HFit H' := fun i x hi => h i x (by rw [← e]; exact hi)
theorem next_os (H : He) (id : Int) (s : ByteArray) : (nextH H id s).os = H.os := by unfold nextH; split <;> rfl
theorem hfit_new (a b k : Int) : HFit (newH a b k) := fun i x h => by simp [newH] at h
theorem hfit_make {H : He} (h : HFit H) : HFit (makeH H) := by
  unfold makeH
  split
  · exact h
  · intro i x hi
    rcases get_snoc hi with hi | ⟨_, rfl⟩
    · exact h i x hi
    · intro e he
      cases he
theorem hfit_at {H : He} {o : Int} {x : Ob} (h : HFit H) (hx : getO H o = some x) : LFit x.l := by
  obtain ⟨i, rfl, hi⟩ := getO_some hx
  exact h i x hi
theorem hfit_set {H : He} {o : Int} {s : ByteArray} {v : Vl} (h : HFit H) (hv : VFit v) : HFit (setH H o s v) := by
  unfold setH
  cases hg : getO H o with
  | none => exact h
  | some x =>
    have hx := hfit_at h hg
    obtain ⟨i, rfl, hi⟩ := getO_some hg
    dsimp only
    rw [putO_succ, putO_succ]
    split
    · exact hfit_put h (lfit_set hx hv)
    · split
      · exact h
      · exact hfit_put (hfit_os h (next_os _ _ _)) (lfit_more hx hv)
theorem hfit_del {H : He} {o : Int} {s : ByteArray} (h : HFit H) : HFit (delH H o s) := by
  unfold delH
  cases hg : getO H o with
  | none => exact h
  | some x =>
    have hx := hfit_at h hg
    obtain ⟨i, rfl, hi⟩ := getO_some hg
    dsimp only
    rw [putO_succ]
    split
    · exact hfit_put h (lfit_drop hx)
    · exact h
theorem hfit_proto {H : He} {o p : Int} (h : HFit H) : HFit (protoS H o p) := by
  unfold protoS
  cases hg : getO H o with
  | none => exact h
  | some x =>
    have hx := hfit_at h hg
    obtain ⟨i, rfl, hi⟩ := getO_some hg
    dsimp only
    rw [putO_succ, putO_succ]
    split
    · exact h
    · split
      · exact h
      · split
        · exact hfit_put h hx
        · exact hfit_put (hfit_os h rfl) hx
theorem hfit_putv {H : He} {o j : Int} {v : Vl} (h : HFit H) (hv : VFit v) : HFit (putH H o j v) := by
  unfold putH
  cases hg : getO H o with
  | none => exact h
  | some x =>
    have hx := hfit_at h hg
    obtain ⟨i, rfl, hi⟩ := getO_some hg
    dsimp only
    rw [putO_succ]
    split
    · exact h
    · exact hfit_put h (lfit_at hx hv)
theorem hfit_grow {H : He} {o to : Int} {v : Vl} (h : HFit H) (hv : VFit v) : HFit (growH H o to v) := by
  unfold growH
  cases hg : getO H o with
  | none => exact h
  | some x =>
    have hx := hfit_at h hg
    obtain ⟨i, rfl, hi⟩ := getO_some hg
    dsimp only
    rw [putO_succ]
    split
    · exact h
    · split
      · exact h
      · exact hfit_put h (lfit_more hx hv)

end Go.Proofs.YtemidicgipebjaaGreat

namespace Go.Proofs.YtemidicgipebjaaGreat
set_option linter.unusedSimpArgs false
set_option maxRecDepth 100000
open Go.RowKit

theorem ivO_iface (x : Ob) (q : Nat) : ∃ T, ivO x q = .iface T (.pointer (some ⟨q, 0, none⟩)) := by
  unfold ivO
  split
  · exact ⟨_, rfl⟩
  · exact ⟨_, rfl⟩
/-- an object is another one, behind with, without, under -/
def Tnd (K i : Nat) (H : He) (H' : He) (x' : Ob) (h s c n f : Nat) (v : Value) (g q col : Nat → Nat) (w : World) (e : Ending) (w1 : World) : Prop :=
  ∃ (T : TypeId) (qi : Nat) (col' : Nat → Nat) (x : Ob), e = .returned (.iface T (.pointer (some ⟨qi, 0, none⟩))) ∧ H.os[i]? = some x ∧ x.ep ≤ K ∧ Blk (g i) 97 #[ivO x (q i), .int .i64 (x.ep : Int)] w1 ∧ (∀ b, col b = 0 → b < w.heap.size → w1.heap[b]? = w.heap[b]?) ∧ (∀ b, col b = 1 → b < w.heap.size → w1.heap[b]? = w.heap[b]?) ∧ w.heap.size ≤ w1.heap.size ∧
    HpAt (K + 1) (putI H' i x') h s c n f v g (upd q i qi) col' ((w1.setCell ⟨g i, 0, none⟩ (.iface T (.pointer (some ⟨qi, 0, none⟩)))).setCell ⟨g i, 1, none⟩ (.int .i64 ((x.ep + 1 : Nat) : Int))) ∧
    Keep (fun b => col b ≠ 0) w ((w1.setCell ⟨g i, 0, none⟩ (.iface T (.pointer (some ⟨qi, 0, none⟩)))).setCell ⟨g i, 1, none⟩ (.int .i64 ((x.ep + 1 : Nat) : Int))) ∧ ∀ b, b < w.heap.size → col' b = col b
theorem tnd_of {K i : Nat} {H H' : He} {x x' : Ob} {h s c n f : Nat} {v : Value} {g q col : Nat → Nat} {w w1 : World} {e : Ending} (p : HpAt K H h s c n f v g q col w) (hi : H.os[i]? = some x) (t : Turned (K + 1) H' c n f (4 + i) x' col w e w1) (hm : H'.most = H.most) (hp : H'.props = H.props) (ho : H'.os = H.os) (wf : WfH (K + 1) (putI H' i x')) (he : x'.ep = x.ep + 1) : Tnd K i H H' x' h s c n f v g q col w e w1 := by
  obtain ⟨qi, col', rfl, C, k, G⟩ := t
  obtain ⟨T, hT⟩ := ivO_iface x' qi
  obtain ⟨r1, r2, r3⟩ := p.turn hi C k G (Nat.le_succ _) hm hp ho wf he
  rw [hT] at r2 r3
  exact ⟨T, qi, col', x, by rw [hT], hi, (p.wf.obs i x hi).ep, r1, fun b hb hl => G.keep.block b hl (by rw [hb]; omega), fun b hb hl => G.keep.block b hl (by rw [hb]; omega), G.keep.size, r2, r3, G.old⟩
theorem tnd_done {S : Nat → Prop} {K : Nat} {H' : He} {h s c n f : Nat} {v : Value} {g q' col col' : Nat → Nat} {w w2 : World} (p : HpAt K H' h s c n f v g q' col' w2) (k : Keep (fun b => col b ≠ 0) w w2) (ho : ∀ b, b < w.heap.size → col' b = col b) (hS : ∀ b, col b ≠ 0 → S b) : HpS (Up S w) K h H' w2 ∧ Keep S w w2 := by
  refine ⟨⟨s, c, n, f, v, g, q', col', p, fun b hb => ?_⟩, k.mono (fun b _ e => hS b e)⟩
  by_cases hl : b < w.heap.size
  · exact .inl (hS b (by rw [← ho b hl]; exact hb))
  · exact .inr (by omega)
theorem hwith_slot {K : Nat} {H : He} {h s c n f i : Nat} {v : Value} {g q col : Nat → Nat} {x : Ob} (w : World) (p : HpAt K H h s c n f v g q col w) (hK : 40 ≤ K) (hK2 : K ≤ 900000) (hi : H.os[i]? = some x) (h0 : x.sh ≠ 0) (nm : ByteArray) (hn : nm.size ≤ 1000000) (hh : hasL x.l nm = false) (hl : x.l.length < H.props) (u : Vl) :
    Calls Tryz.prog 58 #[.iface 88 (.pointer (some ⟨q i, 0, none⟩)), .string nm, vlV u] w fun e w' => Tnd K i H (nextH H x.sh nm) { x with l := x.l ++ [(nm, u)], ep := x.ep + 1, sh := nextN H x.sh nm } h s c n f v g q col w e w' := by
  obtain ⟨vv, h1, h2⟩ := p.slotted hi h0
  obtain ⟨n1, n2, y, n3⟩ := p.named (by omega) hi h0
  refine (with_slot (J := K + 1) w p.cls p.one.2.2.1 p.top (by omega) h1 h2 n1 n3 n2 (p.wf.obs i x hi).ok (p.wf.obs i x hi).few (by have := p.wf.nl; omega) (by omega) nm hn hh u).mono ?_
  intro e w' t
  exact tnd_of p hi t (by unfold nextH; split <;> rfl) (by unfold nextH; split <;> rfl) next_stay.2.2.2.2 (set_wf p.wf hK2 hi nm hn hh hl u) rfl
theorem hwith_dict {K : Nat} {H : He} {h s c n f i : Nat} {v : Value} {g q col : Nat → Nat} {x : Ob} (w : World) (p : HpAt K H h s c n f v g q col w) (hK : 40 ≤ K) (hK2 : K ≤ 900000) (hi : H.os[i]? = some x) (h0 : x.sh = 0) (nm : ByteArray) (hn : nm.size ≤ 1000000) (hh : hasL x.l nm = false) (hl : x.l.length < H.props) (u : Vl) :
    Calls Tryz.prog 58 #[.iface 133 (.pointer (some ⟨q i, 0, none⟩)), .string nm, vlV u] w fun e w' => Tnd K i H (nextH H x.sh nm) { x with l := x.l ++ [(nm, u)], ep := x.ep + 1, sh := nextN H x.sh nm } h s c n f v g q col w e w' := by
  obtain ⟨m, h1, h2⟩ := p.dict hi h0
  have e1 : nextN H x.sh nm = 0 := by rw [h0]; unfold nextN; rw [getS_out (.inl (by omega))]
  have e2 : nextH H x.sh nm = H := by rw [h0]; unfold nextH; rw [getS_out (.inl (by omega))]
  have wf := set_wf p.wf hK2 hi nm hn hh hl u
  rw [e1, e2] at wf ⊢
  refine (with_dict w h1 (by omega) nm hn u).mono ?_
  rintro e w' ⟨rfl, k1, k2⟩
  rw [setL_new u hh] at k1
  exact tnd_of p hi (turned_dict (x' := { x with l := x.l ++ [(nm, u)], ep := x.ep + 1, sh := 0 }) (m := m + 1) p.cls p.one.2.2.1 (by omega) rfl k2 k1 (by omega)) rfl rfl rfl wf rfl
theorem hwithout_slot {K : Nat} {H : He} {h s c n f i : Nat} {v : Value} {g q col : Nat → Nat} {x : Ob} (w : World) (p : HpAt K H h s c n f v g q col w) (hK : 40 ≤ K) (hK2 : K ≤ 900000) (hi : H.os[i]? = some x) (h0 : x.sh ≠ 0) (nm : ByteArray) (hn : nm.size ≤ 1000000) :
    Calls Tryz.prog 59 #[.iface 88 (.pointer (some ⟨q i, 0, none⟩)), .string nm] w fun e w' => Tnd K i H H { x with l := dropL x.l nm, ep := x.ep + 1, sh := 0 } h s c n f v g q col w e w' := by
  obtain ⟨vv, h1, h2⟩ := p.slotted hi h0
  obtain ⟨n1, n2, y, n3⟩ := p.named (by omega) hi h0
  refine (without_slot (K := K + 1) (t := 4 + i) w p.cls p.one.2.2.1 p.top (by omega) h1 n1 n2 (p.wf.obs i x hi).ok (p.wf.obs i x hi).few (by omega) nm hn).mono ?_
  intro e w' t
  exact tnd_of p hi t rfl rfl rfl (del_wf p.wf hi nm) rfl
theorem hwithout_dict {K : Nat} {H : He} {h s c n f i : Nat} {v : Value} {g q col : Nat → Nat} {x : Ob} (w : World) (p : HpAt K H h s c n f v g q col w) (hK : 40 ≤ K) (hK2 : K ≤ 900000) (hi : H.os[i]? = some x) (h0 : x.sh = 0) (nm : ByteArray) (hn : nm.size ≤ 1000000) :
    Calls Tryz.prog 59 #[.iface 133 (.pointer (some ⟨q i, 0, none⟩)), .string nm] w fun e w' => Tnd K i H H { x with l := dropL x.l nm, ep := x.ep + 1, sh := 0 } h s c n f v g q col w e w' := by
  obtain ⟨m, h1, h2⟩ := p.dict hi h0
  refine (without_dict w h1 (by omega) nm hn).mono ?_
  rintro e w' ⟨rfl, k1, k2⟩
  exact tnd_of p hi (turned_dict (x' := { x with l := dropL x.l nm, ep := x.ep + 1, sh := 0 }) (m := m) p.cls p.one.2.2.1 (by omega) rfl k2 k1 (by omega)) rfl rfl rfl (del_wf p.wf hi nm) rfl
theorem hunder_slot {K : Nat} {H : He} {h s c n f i : Nat} {v : Value} {g q col : Nat → Nat} {x : Ob} (w : World) (p : HpAt K H h s c n f v g q col w) (hK : 40 ≤ K) (hK2 : K ≤ 900000) (hi : H.os[i]? = some x) (h0 : x.sh ≠ 0) (a : Nat) (ha : a ≤ H.os.length) (hon : onH H ((i + 1 : Nat) : Int) (a : Int) = false) :
    Calls Tryz.prog 61 #[.iface 88 (.pointer (some ⟨q i, 0, none⟩)), .int .i64 (a : Int)] w fun e w' => Tnd K i H { H with L := (moveP H.M H.L x.sh a).2 } { x with pr := a, ep := x.ep + 1, sh := (moveP H.M H.L x.sh a).1 } h s c n f v g q col w e w' := by
  obtain ⟨vv, h1, h2⟩ := p.slotted hi h0
  obtain ⟨n1, n2, y, n3⟩ := p.named (by omega) hi h0
  refine (under_slot (K := K + 1) w p.cls p.one.2.2.1 p.top (by omega) h1 h2 n1 n3 (p.wf.obs i x hi).ok (p.wf.obs i x hi).few (by omega) a (by have := p.wf.len; have := p.wf.most; omega)).mono ?_
  intro e w' t
  exact tnd_of p hi t rfl rfl rfl (move_wf p.wf hi h0 ha hon) rfl
theorem hunder_dict {K : Nat} {H : He} {h s c n f i : Nat} {v : Value} {g q col : Nat → Nat} {x : Ob} (w : World) (p : HpAt K H h s c n f v g q col w) (hi : H.os[i]? = some x) (h0 : x.sh = 0) (a : Nat) (ha : a ≤ H.os.length) (hon : onH H ((i + 1 : Nat) : Int) (a : Int) = false) :
    Calls Tryz.prog 61 #[.iface 133 (.pointer (some ⟨q i, 0, none⟩)), .int .i64 (a : Int)] w fun e w' => Tnd K i H H { x with pr := a, ep := x.ep + 1 } h s c n f v g q col w e w' := by
  obtain ⟨m, h1, h2⟩ := p.dict hi h0
  refine (under_dict w h1 (a : Int)).mono ?_
  rintro e w' ⟨rfl, k1, k2⟩
  exact tnd_of p hi (turned_dict (x' := { x with pr := a, ep := x.ep + 1 }) (m := m) p.cls p.one.2.2.1 (by omega) h0 k2 (k1.mono (fun _ _ e => .inl e) (Nat.le_refl _)) (by omega)) rfl rfl rfl (under_wf p.wf hi h0 ha hon) rfl

end Go.Proofs.YtemidicgipebjaaGreat
