/- The document's heap in memory: the heap's block, the row of objects, the table of names, the forest, the objects. What the document's heap tells. -/
import Derived.Test.YtemidicgipebjaaGreatJoint14
import Derived.Test.YtemidicgipebjaaGreatRtH
import Derived.Test.YtemidicgipebjaaGreatShRmove
import Derived.Test.YtemidicgipebjaaGreatJoint11
import Derived.Test.YtemidicgipebjaaGreatHpWith
import Derived.Test.YtemidicgipebjaaGreatHpRead
namespace Go.Proofs.YtemidicgipebjaaGreat
set_option linter.unusedSimpArgs false
set_option linter.unusedVariables false
set_option maxRecDepth 100000
open Go.RowKit

/-- an object of the document's at q, its blocks of colour t -/
def ObR (x : Ob) (q t : Nat) (col : Nat → Nat) (w : World) : Prop :=
  ∃ nv vv, RoAt (.int .i64 (x.pr : Int)) (.int .i64 (x.ep : Int)) (.int .i64 (x.sh : Int)) q nv vv x.l w ∧ ∀ b, FtO q nv vv b → col b = t
theorem ObR.grew {P : Nat → Prop} {x : Ob} {q t : Nat} {col col' : Nat → Nat} {a b : World} (h : ObR x q t col a) (g : Grew P col col' a b) (ht : ¬ P t) : ObR x q t col' b := by
  obtain ⟨nv, vv, h1, h2⟩ := h
  exact ⟨nv, vv, h1.keep (fun y hy => g.keep.block y (h1.lt hy) (by rw [h2 y hy]; exact ht)), fun y hy => (g.old y (h1.lt hy)).trans (h2 y hy)⟩
/-- the document's heap at r -/
structure RhM (H : He) (r f : Nat) (v tv : Value) (q col : Nat → Nat) (w : World) : Prop where
  bh : Blk r 76 #[v, .int .i64 (H.most : Int), .int .i64 (H.props : Int), .pointer (some ⟨f, 0, none⟩), tv] w
  row : w.ownsRow 0 87 1 v H.os.length (rowL q H.os.length)
  tab : w.ownsRow 0 9 1 tv H.N.length (H.N.map Value.string)
  fo : RfS (fun b => col b = 3) f H.M H.L w
  ob : ∀ (i : Nat) (x : Ob), H.os[i]? = some x → ObR x (q i) (4 + i) col w
  one : col r = 1 ∧ (∀ b, v.ownBlock = some b → col b = 1) ∧ ∀ b, tv.ownBlock = some b → col b = 2
  top : ∀ b, w.heap.size ≤ b → col b = 0
section
variable {H : He} {r f : Nat} {v tv : Value} {q col col' : Nat → Nat} {w a b : World}
theorem RhM.lt (p : RhM H r f v tv q col w) {y : Nat} (hy : col y ≠ 0) : y < w.heap.size := Nat.lt_of_not_le (fun h => hy (p.top y h))
theorem RhM.on (p : RhM H r f v tv q col a) (k : Below a.heap.size a b) : RhM H r f v tv q col b := by
  have g : Grew (fun _ => False) col col a b := Grew.below k p.top
  exact ⟨blk_on p.bh k, row_keep p.row (fun x hx => by obtain ⟨cur, hc⟩ := row_lt p.row hx; exact k.block x (blk_lt hc)), row_keep p.tab (fun x hx => by obtain ⟨cur, hc⟩ := row_lt p.tab hx; exact k.block x (blk_lt hc)), p.fo.on k,
    fun i x hi => (p.ob i x hi).grew g (fun h => h), p.one, fun x hx => p.top x (Nat.le_trans k.size hx)⟩
/-- what no colour of the heap's was changed by -/
theorem RhM.same {P : Nat → Prop} (p : RhM H r f v tv q col a) (g : Grew P col col' a b) (h1 : ¬ P 1) (h2 : ¬ P 2) (h3 : ¬ P 3) (h4 : ∀ i, ¬ P (4 + i)) : RhM H r f v tv q col' b := by
  have o := p.one
  have old : ∀ y, col y ≠ 0 → col' y = col y := fun y hy => g.old y (p.lt hy)
  exact ⟨blk_keep p.bh g.keep (by rw [o.1]; exact h1), row_keep p.row (fun x hx => g.keep.block x (p.lt (by rw [o.2.1 x hx]; decide)) (by rw [o.2.1 x hx]; exact h1)), row_keep p.tab (fun x hx => g.keep.block x (p.lt (by rw [o.2.2 x hx]; decide)) (by rw [o.2.2 x hx]; exact h2)),
    (p.fo.keep g.keep (fun y _ e => by rw [e]; exact h3)).mono (fun y hy e => by rw [old y (by rw [e]; decide)]; exact e), fun i x hi => (p.ob i x hi).grew g (h4 i),
    ⟨by rw [old _ (by rw [o.1]; decide)]; exact o.1, fun y hy => by rw [old _ (by rw [o.2.1 y hy]; decide)]; exact o.2.1 y hy, fun y hy => by rw [old _ (by rw [o.2.2 y hy]; decide)]; exact o.2.2 y hy⟩, g.top⟩
/-- an object changed -/
theorem RhM.obj {i : Nat} {x' : Ob} (p : RhM H r f v tv q col a) (hi : i < H.os.length) (g : Grew (fun u => u = 4 + i) col col' a b) (ob : ObR x' (q i) (4 + i) col' b) : RhM (putI H i x') r f v tv q col' b := by
  have o := p.one
  have hl : (putI H i x').os.length = H.os.length := by unfold putI; simp
  have old : ∀ y, col y ≠ 0 → col' y = col y := fun y hy => g.old y (p.lt hy)
  refine ⟨blk_keep p.bh g.keep (by rw [o.1]; omega), ?_, row_keep p.tab (fun x hx => g.keep.block x (p.lt (by rw [o.2.2 x hx]; decide)) (by rw [o.2.2 x hx]; omega)), ?_, ?_, ⟨by rw [old _ (by rw [o.1]; decide)]; exact o.1, fun y hy => by rw [old _ (by rw [o.2.1 y hy]; decide)]; exact o.2.1 y hy, fun y hy => by rw [old _ (by rw [o.2.2 y hy]; decide)]; exact o.2.2 y hy⟩, g.top⟩
  · rw [hl]
    exact row_keep p.row (fun x hx => g.keep.block x (p.lt (by rw [o.2.1 x hx]; decide)) (by rw [o.2.1 x hx]; omega))
  · exact (p.fo.keep g.keep (fun y _ e => by rw [e]; omega)).mono (fun y hy e => by rw [old y (by rw [e]; decide)]; exact e)
  · intro j y hj
    have hj' : (H.os.set i x')[j]? = some y := hj
    rcases set_get hj' with ⟨rfl, rfl, _⟩ | ⟨hne, hj'⟩
    · exact ob
    · exact (p.ob j y hj').grew g (by omega)
/-- .. its own blocks alone, and new ones -/
theorem RhM.objK {i : Nat} {x x' : Ob} {nv vv nv' vv' : Value} (p : RhM H r f v tv q col a) (hi : H.os[i]? = some x) (hc : ∀ y, FtO (q i) nv vv y → col y = 4 + i) (k : Keep (FtO (q i) nv vv) a b)
    (ob : RoAt (.int .i64 (x'.pr : Int)) (.int .i64 (x'.ep : Int)) (.int .i64 (x'.sh : Int)) (q i) nv' vv' x'.l b) (hn : ∀ y, FtO (q i) nv' vv' y → FtO (q i) nv vv y ∨ a.heap.size ≤ y) :
    ∃ col', RhM (putI H i x') r f v tv q col' b ∧ Grew (fun u => u = 4 + i) col col' a b := by
  have g := grew_ext (t := 4 + i) (k.mono (fun y _ h => hc y h))
  refine ⟨_, p.obj (lt_of_get hi) g ⟨nv', vv', ob, fun y hy => ext_new (ob.lt hy) ?_⟩, g⟩
  rcases hn y hy with h | h
  · exact .inl (hc y h)
  · exact .inr h
/-- the forest changed -/
theorem RhM.wood {L' : List Sh} (p : RhM H r f v tv q col a) (k : Keep (fun y => col y = 3) a b) (h : RfS (Up (fun y => col y = 3) a) f H.M L' b) :
    ∃ col', RhM { H with L := L' } r f v tv q col' b ∧ Grew (fun u => u = 3) col col' a b := by
  have g := grew_ext k
  have o := p.one
  have old : ∀ y, col y ≠ 0 → ext col a.heap.size b.heap.size 3 y = col y := fun y hy => g.old y (p.lt hy)
  refine ⟨_, ⟨blk_keep p.bh g.keep (by rw [o.1]; omega), row_keep p.row (fun x hx => g.keep.block x (p.lt (by rw [o.2.1 x hx]; decide)) (by rw [o.2.1 x hx]; omega)), row_keep p.tab (fun x hx => g.keep.block x (p.lt (by rw [o.2.2 x hx]; decide)) (by rw [o.2.2 x hx]; omega)), h.mono (fun y hy e => ext_new hy e), fun i x hi => (p.ob i x hi).grew g (by omega),
    ⟨by rw [old _ (by rw [o.1]; decide)]; exact o.1, fun y hy => by rw [old _ (by rw [o.2.1 y hy]; decide)]; exact o.2.1 y hy, fun y hy => by rw [old _ (by rw [o.2.2 y hy]; decide)]; exact o.2.2 y hy⟩, g.top⟩, g⟩
/-- the table changed -/
theorem RhM.names {N' : List ByteArray} {tv' : Value} (p : RhM H r f v tv q col a) (h : RtH v (.int .i64 (H.most : Int)) (.int .i64 (H.props : Int)) (.pointer (some ⟨f, 0, none⟩)) r tv' N' b) (k : Keep (fun y => y = r ∨ tv.ownBlock = some y) a b) (hn : ∀ g, tv'.ownBlock = some g → tv.ownBlock = some g ∨ a.heap.size ≤ g) :
    ∃ col', RhM { H with N := N' } r f v tv' q col' b ∧ Grew (fun u => u = 1 ∨ u = 2) col col' a b := by
  have o := p.one
  have k1 : Keep (fun y => col y = 1 ∨ col y = 2) a b := k.mono (fun y _ e => by rcases e with rfl | e; exact .inl o.1; exact .inr (o.2.2 y e))
  have g : Grew (fun u => u = 1 ∨ u = 2) col (ext col a.heap.size b.heap.size 2) a b := ⟨fun y hy => by unfold ext; rw [if_pos hy], fun y hy => by unfold ext; rw [if_neg (by have := k.size; omega), if_neg (by omega)], k1⟩
  have old : ∀ y, col y ≠ 0 → ext col a.heap.size b.heap.size 2 y = col y := fun y hy => g.old y (p.lt hy)
  have nr : ∀ y, v.ownBlock = some y → ¬ (y = r ∨ tv.ownBlock = some y) := fun y hy e => by
    obtain ⟨cur, hc⟩ := row_lt p.row hy
    rcases e with rfl | e
    · exact absurd (blk_type hc p.bh) (by decide)
    · have := o.2.1 y hy; rw [o.2.2 y e] at this; omega
  refine ⟨_, ⟨h.blk, row_keep p.row (fun x hx => k.block x (p.lt (by rw [o.2.1 x hx]; decide)) (nr x hx)), h.row, (p.fo.keep g.keep (fun y _ e => by rw [e]; omega)).mono (fun y hy e => by rw [old y (by rw [e]; decide)]; exact e), fun i x hi => (p.ob i x hi).grew g (by omega),
    ⟨by rw [old _ (by rw [o.1]; decide)]; exact o.1, fun y hy => by rw [old _ (by rw [o.2.1 y hy]; decide)]; exact o.2.1 y hy, fun y hy => ?_⟩, g.top⟩, g⟩
  rcases hn y hy with e | e
  · rw [old _ (by rw [o.2.2 y e]; decide)]; exact o.2.2 y e
  · obtain ⟨cur, hc⟩ := row_lt h.row hy
    exact ext_new (blk_lt hc) (.inr e)
theorem RhM.tabs (p : RhM H r f v tv q col w) : RtH v (.int .i64 (H.most : Int)) (.int .i64 (H.props : Int)) (.pointer (some ⟨f, 0, none⟩)) r tv H.N w := ⟨p.bh, p.tab⟩
theorem RhM.cells (p : RhM H r f v tv q col w) : w.cell? ⟨r, 0, none⟩ = some v ∧ w.cell? ⟨r, 1, none⟩ = some (.int .i64 (H.most : Int)) ∧ w.cell? ⟨r, 2, none⟩ = some (.int .i64 (H.props : Int)) ∧ w.cell? ⟨r, 3, none⟩ = some (.pointer (some ⟨f, 0, none⟩)) ∧ w.cell? ⟨r, 4, none⟩ = some tv ∧ r < w.heap.size :=
  ⟨by rw [blk_cell p.bh]; rfl, by rw [blk_cell p.bh]; rfl, by rw [blk_cell p.bh]; rfl, by rw [blk_cell p.bh]; rfl, by rw [blk_cell p.bh]; rfl, blk_lt p.bh⟩
/-- where object i's number leads -/
theorem RhM.at' (p : RhM H r f v tv q col w) {i : Nat} (hi : i < H.os.length) : ∃ g cap, v = .slice (some ⟨g, 0, none⟩) H.os.length cap ∧ g < w.heap.size ∧ w.cell? ⟨g, i, none⟩ = some (.pointer (some ⟨q i, 0, none⟩)) := by
  obtain ⟨g, cap, rfl, _, hg⟩ := p.row.form (by omega)
  exact ⟨g, cap, rfl, hg, row_cell p.row (rowL_at q hi)⟩
end
theorem RoAt.five {P E S : Value} {r : Nat} {nv vv : Value} {l : List Ent} {w : World} (h : RoAt P E S r nv vv l w) : w.cell? ⟨r, 0, none⟩ = some P ∧ w.cell? ⟨r, 1, none⟩ = some nv ∧ w.cell? ⟨r, 2, none⟩ = some vv ∧ w.cell? ⟨r, 3, none⟩ = some E ∧ w.cell? ⟨r, 4, none⟩ = some S ∧ r < w.heap.size :=
  ⟨by rw [blk_cell h.blk]; rfl, by rw [blk_cell h.blk]; rfl, by rw [blk_cell h.blk]; rfl, by rw [blk_cell h.blk]; rfl, by rw [blk_cell h.blk]; rfl, blk_lt h.blk⟩
/-- its other cells stored -/
theorem RoAt.setP {P E S : Value} {r : Nat} {nv vv : Value} {l : List Ent} {w : World} (h : RoAt P E S r nv vv l w) (x : Value) : RoAt x E S r nv vv l (w.setCell ⟨r, 0, none⟩ x) ∧ Keep (FtO r nv vv) w (w.setCell ⟨r, 0, none⟩ x) := by
  have k := Keep.set (S := fun b => b = r) rfl w 0 x
  obtain ⟨n1, n2⟩ := h.ne
  exact ⟨⟨blk_set h.blk 0 x, row_keep h.nam (fun g hg => k.block g (h.lt (.inr (.inl hg))) (n1 g hg).1), row_keep h.val (fun g hg => k.block g (h.lt (.inr (.inr hg))) (n2 g hg).1)⟩, k.mono (fun b _ e => .inl e)⟩
theorem RoAt.setE {P E S : Value} {r : Nat} {nv vv : Value} {l : List Ent} {w : World} (h : RoAt P E S r nv vv l w) (x : Value) : RoAt P x S r nv vv l (w.setCell ⟨r, 3, none⟩ x) ∧ Keep (FtO r nv vv) w (w.setCell ⟨r, 3, none⟩ x) := by
  have k := Keep.set (S := fun b => b = r) rfl w 3 x
  obtain ⟨n1, n2⟩ := h.ne
  exact ⟨⟨blk_set h.blk 3 x, row_keep h.nam (fun g hg => k.block g (h.lt (.inr (.inl hg))) (n1 g hg).1), row_keep h.val (fun g hg => k.block g (h.lt (.inr (.inr hg))) (n2 g hg).1)⟩, k.mono (fun b _ e => .inl e)⟩
theorem RoAt.setS {P E S : Value} {r : Nat} {nv vv : Value} {l : List Ent} {w : World} (h : RoAt P E S r nv vv l w) (x : Value) : RoAt P E x r nv vv l (w.setCell ⟨r, 4, none⟩ x) ∧ Keep (FtO r nv vv) w (w.setCell ⟨r, 4, none⟩ x) := by
  have k := Keep.set (S := fun b => b = r) rfl w 4 x
  obtain ⟨n1, n2⟩ := h.ne
  exact ⟨⟨blk_set h.blk 4 x, row_keep h.nam (fun g hg => k.block g (h.lt (.inr (.inl hg))) (n1 g hg).1), row_keep h.val (fun g hg => k.block g (h.lt (.inr (.inr hg))) (n2 g hg).1)⟩, k.mono (fun b _ e => .inl e)⟩
/-- the document's heap at r, in the blocks of S -/
def RhS (S : Nat → Prop) (K r : Nat) (H : He) (w : World) : Prop := WfH K H ∧ ∃ f v tv q col, RhM H r f v tv q col w ∧ ∀ b, col b ≠ 0 → S b
theorem RhS.on {S : Nat → Prop} {K r : Nat} {H : He} {a b : World} (p : RhS S K r H a) (k : Below a.heap.size a b) : RhS S K r H b := by
  obtain ⟨W, f, v, tv, q, col, p, hS⟩ := p
  exact ⟨W, f, v, tv, q, col, p.on k, hS⟩
theorem RhS.mono {S T : Nat → Prop} {K r : Nat} {H : He} {w : World} (p : RhS S K r H w) (hS : ∀ b, b < w.heap.size → S b → T b) : RhS T K r H w := by
  obtain ⟨W, f, v, tv, q, col, p, hs⟩ := p
  exact ⟨W, f, v, tv, q, col, p, fun b hb => hS b (p.lt hb) (hs b hb)⟩
theorem RhS.keep {S T : Nat → Prop} {K r : Nat} {H : He} {a b : World} (p : RhS S K r H a) (k : Keep T a b) (hT : ∀ b, b < a.heap.size → S b → ¬ T b) : RhS S K r H b := by
  obtain ⟨W, f, v, tv, q, col, p, hs⟩ := p
  have hn : ∀ x, col x ≠ 0 → ¬ T x := fun x hx => hT x (p.lt hx) (hs x hx)
  have g : Grew (fun u => u = 0) col col a b := ⟨fun _ _ => rfl, fun x hx => p.top x (Nat.le_trans k.size hx), ⟨k.os, k.tape, k.output, k.size, fun x hx e => k.block x hx (hn x e)⟩⟩
  exact ⟨W, f, v, tv, q, col, p.same g (by omega) (by omega) (by omega) (fun i => by omega), hs⟩
end Go.Proofs.YtemidicgipebjaaGreat

namespace Go.Proofs.YtemidicgipebjaaGreat
set_option linter.unusedSimpArgs false
set_option linter.unusedVariables false
set_option maxRecDepth 100000
open Go.RowKit
section
variable {K : Nat} {H : He} {r f : Nat} {v tv : Value} {q col : Nat → Nat}
theorem yhas_calls (w : World) (p : RhM H r f v tv q col w) (o : Int) :
    Calls Tryz.prog 47 #[.pointer (some ⟨r, 0, none⟩), .int .i64 o] w fun e w' => e = .returned (.bool (getO H o).isSome) ∧ w' = w := by
  obtain ⟨ao, cap, rfl⟩ := row_shape p.row
  obtain ⟨c0, _⟩ := p.cells
  clear p
  cases hs : getO H o with
  | some s =>
    obtain ⟨h1, h2⟩ := getO_lt hs
    have d1 : decide (1 ≤ o) = true := decide_eq_true h1
    have d2 : decide (o ≤ (H.os.length : Int)) = true := decide_eq_true h2
    clear hs
    go_enter Tryz.func47, Tryz.ntmps47
    go_wp2_with fail
    go_ret
    exact ⟨rfl, rfl⟩
  | none =>
    have hn := getO_none hs
    clear hs
    by_cases h1 : 1 ≤ o
    · have d1 : decide (1 ≤ o) = true := decide_eq_true h1
      have d2 : decide (o ≤ (H.os.length : Int)) = false := decide_eq_false (by omega)
      clear hn
      go_enter Tryz.func47, Tryz.ntmps47
      go_wp2_with fail
      go_ret
      exact ⟨rfl, rfl⟩
    · have d1 : decide (1 ≤ o) = false := decide_eq_false h1
      clear hn
      go_enter Tryz.func47, Tryz.ntmps47
      go_wp2_with fail
      go_ret
      exact ⟨rfl, rfl⟩
set_option maxHeartbeats 1000000 in
theorem ycount_calls (w : World) (p : RhM H r f v tv q col w) (hl : H.os.length ≤ 200) (o : Int) :
    Calls Tryz.prog 46 #[.pointer (some ⟨r, 0, none⟩), .int .i64 o] w fun e w' => e = .returned (.int .i64 (countH H o : Int)) ∧ w' = w := by
  have HH := hid (yhas_calls w p o)
  cases hg : getO H o with
  | none =>
    rw [show countH H o = 0 by unfold countH; rw [hg]]
    rw [hg] at HH
    clear p
    go_enter Tryz.func46, Tryz.ntmps46
    go_wp2_with fail
    refine HH.out.mono ?_
    rintro e1 w1 ⟨rfl, rfl⟩
    go_wp2_with fail
    go_ret
    exact ⟨rfl, rfl⟩
  | some x =>
    rw [show countH H o = x.l.length by unfold countH; rw [hg]]
    rw [hg] at HH
    obtain ⟨i, rfl, hi⟩ := getO_some hg
    obtain ⟨c0, _⟩ := p.cells
    have hil := lt_of_get hi
    obtain ⟨g, cap, rfl, hgl, c1⟩ := p.at' hil
    obtain ⟨nv, vv, h1, _⟩ := p.ob i x hi
    obtain ⟨z0, z1, z2, z3, z4, hz⟩ := h1.five
    obtain ⟨na, nc, rfl⟩ := row_shape h1.nam
    clear p hg hi h1
    go_enter Tryz.func46, Tryz.ntmps46
    go_wp2_with fail
    refine HH.out.mono ?_
    rintro e1 w1 ⟨rfl, rfl⟩
    go_wp2_with fail
    go_ret
    exact ⟨rfl, rfl⟩
set_option maxHeartbeats 1000000 in
theorem yproto_calls (w : World) (p : RhM H r f v tv q col w) (hl : H.os.length ≤ 200) (o : Int) :
    Calls Tryz.prog 45 #[.pointer (some ⟨r, 0, none⟩), .int .i64 o] w fun e w' => e = .returned (.int .i64 (protoH H o : Int)) ∧ w' = w := by
  have HH := hid (yhas_calls w p o)
  cases hg : getO H o with
  | none =>
    rw [show protoH H o = 0 by unfold protoH; rw [hg]]
    rw [hg] at HH
    clear p
    go_enter Tryz.func45, Tryz.ntmps45
    go_wp2_with fail
    refine HH.out.mono ?_
    rintro e1 w1 ⟨rfl, rfl⟩
    go_wp2_with fail
    go_ret
    exact ⟨rfl, rfl⟩
  | some x =>
    rw [show protoH H o = x.pr by unfold protoH; rw [hg]]
    rw [hg] at HH
    obtain ⟨i, rfl, hi⟩ := getO_some hg
    obtain ⟨c0, _⟩ := p.cells
    have hil := lt_of_get hi
    obtain ⟨g, cap, rfl, hgl, c1⟩ := p.at' hil
    obtain ⟨nv, vv, h1, _⟩ := p.ob i x hi
    obtain ⟨z0, z1, z2, z3, z4, hz⟩ := h1.five
    obtain ⟨na, nc, rfl⟩ := row_shape h1.nam
    clear p hg hi h1
    go_enter Tryz.func45, Tryz.ntmps45
    go_wp2_with fail
    refine HH.out.mono ?_
    rintro e1 w1 ⟨rfl, rfl⟩
    go_wp2_with fail
    go_ret
    exact ⟨rfl, rfl⟩
set_option maxHeartbeats 1000000 in
theorem ykey_calls (w : World) (p : RhM H r f v tv q col w) (hl : H.os.length ≤ 200) (o j : Int) :
    Calls Tryz.prog 49 #[.pointer (some ⟨r, 0, none⟩), .int .i64 o, .int .i64 j] w fun e w' => e = .returned (.tuple #[.string ((keyH H o j).getD ⟨#[]⟩), .bool (keyH H o j).isSome]) ∧ w' = w := by
  have HH := hid (yhas_calls w p o)
  cases hg : getO H o with
  | none =>
    rw [show keyH H o j = none by unfold keyH; rw [hg]]
    rw [hg] at HH
    clear p
    go_enter Tryz.func49, Tryz.ntmps49
    go_wp2_with fail
    refine HH.out.mono ?_
    rintro e1 w1 ⟨rfl, rfl⟩
    go_wp2_with fail
    go_ret2
    exact ⟨rfl, rfl⟩
  | some x =>
    rw [show keyH H o j = keyL x.l j by unfold keyH; rw [hg]]
    rw [hg] at HH
    obtain ⟨i, rfl, hi⟩ := getO_some hg
    obtain ⟨c0, _⟩ := p.cells
    have hil := lt_of_get hi
    obtain ⟨g, cap, rfl, hgl, c1⟩ := p.at' hil
    obtain ⟨nv, vv, h1, _⟩ := p.ob i x hi
    have hz := h1.lt (.inl rfl)
    have HK : Hid (Calls Tryz.prog 86 #[.pointer (some ⟨q i, 1, none⟩), .int .i64 j] w fun e w' => e = .returned (.tuple #[.string ((keyL x.l j).getD ⟨#[]⟩), .bool (keyL x.l j).isSome]) ∧ w' = w) := hid (by
      by_cases hj : 0 ≤ j ∧ j < x.l.length
      · obtain ⟨k, rfl⟩ : ∃ k : Nat, j = (k : Int) := ⟨j.toNat, by omega⟩
        obtain ⟨y, hy⟩ : ∃ y, x.l[k]? = some y := ⟨x.l[k]'(by omega), List.getElem?_eq_getElem (by omega)⟩
        rw [show keyL x.l (k : Int) = some y.1 by unfold keyL; rw [if_pos (by omega)]; simp [hy]]
        exact orkey_some w h1 hy
      · rw [show keyL x.l j = none by unfold keyL; split; rw [List.getElem?_eq_none_iff.2 (by omega)]; rfl; rfl]
        exact orkey_none w h1 j hj)
    generalize keyL x.l j = z at *
    clear p hg hi h1
    go_enter Tryz.func49, Tryz.ntmps49
    go_wp2_with fail
    refine HH.out.mono ?_
    rintro e1 w1 ⟨rfl, rfl⟩
    go_wp2_with fail
    refine HK.out.mono ?_
    rintro e2 w2 ⟨rfl, rfl⟩
    go_wp2_with fail
    go_ret2
    exact ⟨rfl, rfl⟩
set_option maxHeartbeats 1000000 in
theorem yown_calls (w : World) (p : RhM H r f v tv q col w) (W : WfH K H) (o : Int) (nm : ByteArray) :
    Calls Tryz.prog 44 #[.pointer (some ⟨r, 0, none⟩), .int .i64 o, .string nm] w fun e w' => e = .returned (.tuple #[vlV (vlO (ownH H o nm)), .bool (ownH H o nm).isSome]) ∧ Below w.heap.size w w' := by
  have A := (Below.refl w.heap.size w).alloc (Nat.le_refl _) (Obj.cells #[.int .i64 0, .int .i64 0, .string ⟨#[]⟩] 26)
  have hSl := hid (slot_new w rfl 26)
  have HA := hid A
  have hl : H.os.length ≤ 200 := by have := W.len; have := W.most; omega
  replace p := p.on A
  have HH := hid (yhas_calls _ p o)
  cases hg : getO H o with
  | none =>
    rw [show ownH H o nm = none by unfold ownH; rw [hg]]
    rw [hg] at HH
    clear p hg A
    unfold vlV vlO
    dsimp only [Option.getD_none, vl0, Option.isSome_none]
    go_enter Tryz.func44, Tryz.ntmps44
    go_wp2_with fail
    refine HH.out.mono ?_
    rintro e1 w1 ⟨rfl, rfl⟩
    go_wp2_with fail
    exact bodyPost_ret (ret_ve rfl rfl ⟨by simp, by simp, by simp⟩) rfl ⟨rfl, HA.out⟩
  | some x =>
    rw [show ownH H o nm = look x.l nm by unfold ownH; rw [hg]]
    rw [hg] at HH
    obtain ⟨i, rfl, hi⟩ := getO_some hg
    obtain ⟨c0, _⟩ := p.cells
    have hil := lt_of_get hi
    obtain ⟨g, cap, rfl, hgl, c1⟩ := p.at' hil
    obtain ⟨nv, vv, h1, _⟩ := p.ob i x hi
    have hz := h1.lt (.inl rfl)
    have hfew := (W.obs i x hi).few
    have HV := hid (orget_calls _ h1 nm (by omega))
    unfold gotV hasL at HV
    generalize look x.l nm = z at *
    unfold vlV vlO at *
    clear p hg hi h1 A
    go_enter Tryz.func44, Tryz.ntmps44
    go_wp2_with fail
    refine HH.out.mono ?_
    rintro e1 w1 ⟨rfl, rfl⟩
    go_wp2_with fail
    refine HV.out.mono ?_
    rintro e2 w2 ⟨rfl, b2⟩
    have HS2 := hid (slot_on hSl.out b2)
    have HB := hid (below_on HA.out b2)
    clear b2 hSl HA HV
    obtain ⟨g0, g1, g2, g3, g4, g5, g6⟩ := HS2.out
    go_wp2_with fail
    exact bodyPost_ret (ret_ve rfl rfl (put3_cells HS2.out _ _ _)) rfl ⟨rfl, put3 HB.out (Nat.le_refl _) _ _ _⟩
end
end Go.Proofs.YtemidicgipebjaaGreat
