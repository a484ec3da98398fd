/- The table of sites in memory. -/
import Derived.Test.YtimhgbcanmgajaaGreatJoint15
import Derived.Test.YtimhgbcanmgajaaGreatHpTurn
namespace Go.Proofs.YtimhgbcanmgajaaGreat
set_option linter.unusedSimpArgs false
set_option linter.unusedVariables false
set_option maxRecDepth 100000
open Go.RowKit

def dpC (d : Dp) : List Value := [.int .i64 (d.ob : Int), .int .i64 (d.ep : Int)]
/-- a row of what an entry hangs on -/
def DpV (T : TypeId) (v : Value) (ds : List Dp) (w : World) : Prop := w.ownsRow 0 T 2 v ds.length (ds.map dpC).flatten
def enC (p : En × Value) : List Value := [.int .i64 (p.1.sh : Int), .int .i64 p.1.holder, .int .i64 p.1.slot, .int .i64 (p.1.to : Int), p.2]
/-- an entry, and the heap that it is of -/
def keC (s : Nat) (p : En × Value) : List Value := [.int .i64 (p.1.sh : Int), .int .i64 p.1.holder, .int .i64 p.1.slot, .int .i64 (p.1.to : Int), p.2, .pointer (some ⟨s, 0, none⟩)]
abbrev keV (s : Nat) (p : En × Value) : Value := .agg #[.int .i64 (p.1.sh : Int), .int .i64 p.1.holder, .int .i64 p.1.slot, .int .i64 (p.1.to : Int), p.2, .pointer (some ⟨s, 0, none⟩)]
abbrev keZ : Value := .agg #[.int .i64 0, .int .i64 0, .int .i64 0, .int .i64 0, .slice none 0 0, .pointer none]
theorem dpC_len : ∀ (ds : List Dp), ∀ r ∈ ds.map dpC, r.length = 2 := fun ds r hr => by
  obtain ⟨d, _, rfl⟩ := List.mem_map.1 hr
  rfl
theorem keC_len (s : Nat) : ∀ (l : List (En × Value)), ∀ r ∈ l.map (keC s), r.length = 6 := fun l r hr => by
  obtain ⟨d, _, rfl⟩ := List.mem_map.1 hr
  rfl
theorem DpV.keep {T : TypeId} {v : Value} {ds : List Dp} {a b : World} (h : DpV T v ds a) (hk : ∀ g, v.ownBlock = some g → b.heap[g]? = a.heap[g]?) : DpV T v ds b := row_keep h hk
theorem DpV.on {T : TypeId} {v : Value} {ds : List Dp} {a b : World} (h : DpV T v ds a) (k : Below a.heap.size a b) : DpV T v ds b := h.keep fun g hg => by
  obtain ⟨cur, hc⟩ := row_lt h hg
  exact k.block g (blk_lt hc)
theorem DpV.lt {T : TypeId} {v : Value} {ds : List Dp} {w : World} (h : DpV T v ds w) {g : Nat} (hg : v.ownBlock = some g) : g < w.heap.size := by
  obtain ⟨cur, hc⟩ := row_lt h hg
  exact blk_lt hc
theorem DpV.shape {T : TypeId} {v : Value} {ds : List Dp} {w : World} (h : DpV T v ds w) : ∃ ao cap, v = .slice ao ds.length cap := row_shape h
theorem DpV.at' {T : TypeId} {v : Value} {ds : List Dp} {w : World} (h : DpV T v ds w) {i : Nat} {d : Dp} (hi : ds[i]? = some d) :
    ∃ g cap, v = .slice (some ⟨g, 0, none⟩) ds.length cap ∧ g < w.heap.size ∧ w.cell? ⟨g, i * 2, none⟩ = some (.int .i64 (d.ob : Int)) ∧ w.cell? ⟨g, i * 2 + 1, none⟩ = some (.int .i64 (d.ep : Int)) := by
  have hl : i < ds.length := lt_of_get hi
  obtain ⟨g, cap, rfl, _, hg⟩ := World.ownsRow.form h (by omega)
  have hm : (ds.map dpC)[i]? = some (dpC d) := by rw [List.getElem?_map, hi]; rfl
  exact ⟨g, cap, rfl, hg, row_cell h (by have := flat_at (j := 0) (dpC_len ds) hm (by omega); simpa [dpC] using this), row_cell h (by have := flat_at (j := 1) (dpC_len ds) hm (by omega); simpa [dpC] using this)⟩

/-- what stands in a site's block -/
def ceC (t : St) (v : Value) : Array Value := if t.mega then #[.string ⟨#[]⟩, .bool false, .bool false, .bool true, v] else #[.string t.name, .bool (decide (t.as' = 2)), .bool (decide (t.as' ≠ 0)), .bool false, v]
structure CeAt (s x : Nat) (t : St) (v : Value) (l : List (En × Value)) (w : World) : Prop where
  blk : Blk x 208 (ceC t v) w
  row : w.ownsRow 0 141 6 v l.length (l.map (keC s)).flatten
  es : l.map (·.1) = t.l
  dps : ∀ p ∈ l, DpV 113 p.2 p.1.deps w
theorem CeAt.keep {s x : Nat} {t : St} {v : Value} {l : List (En × Value)} {a b : World} (h : CeAt s x t v l a) (hx : b.heap[x]? = a.heap[x]?) (hv : ∀ g, v.ownBlock = some g → b.heap[g]? = a.heap[g]?) (hd : ∀ p ∈ l, ∀ g, p.2.ownBlock = some g → b.heap[g]? = a.heap[g]?) : CeAt s x t v l b :=
  ⟨hx.trans h.blk, row_keep h.row hv, h.es, fun p hp => (h.dps p hp).keep (hd p hp)⟩
theorem CeAt.on {s x : Nat} {t : St} {v : Value} {l : List (En × Value)} {a b : World} (h : CeAt s x t v l a) (k : Below a.heap.size a b) : CeAt s x t v l b :=
  h.keep (k.block x (blk_lt h.blk)) (fun g hg => by obtain ⟨cur, hc⟩ := row_lt h.row hg; exact k.block g (blk_lt hc)) (fun p hp g hg => k.block g ((h.dps p hp).lt hg))
theorem CeAt.len {s x : Nat} {t : St} {v : Value} {l : List (En × Value)} {w : World} (h : CeAt s x t v l w) : l.length = t.l.length := by rw [← h.es, List.length_map]

/-- colours: of a site, and of a function's map -/
def cS (f k : Nat) : Nat := 10 + f * 5000 + k
def cM (f : Nat) : Nat := 10 + f * 5000 + 4999
def inF (f u : Nat) : Prop := 10 + f * 5000 ≤ u ∧ u < 10 + f * 5000 + 5000
/-- a site in the blocks of its colour -/
def CeS (s f k x : Nat) (t : St) (col : Nat → Nat) (w : World) : Prop :=
  ∃ v l, CeAt s x t v l w ∧ col x = cS f k ∧ (∀ b, v.ownBlock = some b → col b = cS f k) ∧ ∀ p ∈ l, ∀ b, p.2.ownBlock = some b → col b = 2
theorem CeS.grew {P : Nat → Prop} {s f k x : Nat} {t : St} {col col' : Nat → Nat} {w w' : World} (h : CeS s f k x t col w) (G : Grew P col col' w w') (hP : ∀ u, P u → u ≠ cS f k ∧ u ≠ 2) : CeS s f k x t col' w' := by
  obtain ⟨v, l, c, hx, hv, hd⟩ := h
  have lx := blk_lt c.blk
  have lv : ∀ b, v.ownBlock = some b → b < w.heap.size := fun b hb => by obtain ⟨cur, hc⟩ := row_lt c.row hb; exact blk_lt hc
  have ld : ∀ p ∈ l, ∀ b, p.2.ownBlock = some b → b < w.heap.size := fun p hp b hb => (c.dps p hp).lt hb
  refine ⟨v, l, c.keep (G.keep.block x lx (fun e => (hP _ e).1 hx)) (fun b hb => G.keep.block b (lv b hb) (fun e => (hP _ e).1 (hv b hb))) (fun p hp b hb => G.keep.block b (ld p hp b hb) (fun e => (hP _ e).2 (hd p hp b hb))), ?_, fun b hb => ?_, fun p hp b hb => ?_⟩
  · rw [G.old x lx]; exact hx
  · rw [G.old b (lv b hb)]; exact hv b hb
  · rw [G.old b (ld p hp b hb)]; exact hd p hp b hb

/-- a function's sites -/
structure Fm where
  count : Int
  mega : Bool
  m : Option Nat
  cel : Int → Option Nat
def fmC (F : Fm) : List Value := [.int .i64 F.count, .bool F.mega, .map F.m]
theorem fmC_len : ∀ (l : List Fm), ∀ r ∈ l.map fmC, r.length = 3 := fun l r hr => by
  obtain ⟨d, _, rfl⟩ := List.mem_map.1 hr
  rfl
structure FnAt (K s f : Nat) (F : Fm) (r : List St) (col : Nat → Nat) (w : World) : Prop where
  cnt : r.length = F.count.toNat
  big : F.count ≤ 4000
  map : ∀ m, F.m = some m → (∃ c, MapP m F.cel c w ∧ c ≤ K) ∧ col m = cM f
  nil : F.m = none → ∀ k, F.cel k = none
  dom : ∀ k x, F.cel k = some x → 0 ≤ k ∧ k < F.count
  meg : F.mega = true → ∀ t ∈ r, t.mega = true
  mnil : F.mega = true → F.m = none
  old : F.mega = false → ∀ (k : Nat) (t : St), r[k]? = some t → F.cel (k : Int) = none → t = st0
  new : F.mega = false → ∀ (k : Nat) (t : St) (x : Nat), r[k]? = some t → F.cel (k : Int) = some x → CeS s f k x t col w ∧ (t.as' ≠ 0 ∨ t.mega = true)
theorem FnAt.grew {P : Nat → Prop} {K J s f : Nat} {F : Fm} {r : List St} {col col' : Nat → Nat} {w w' : World} (h : FnAt K s f F r col w) (hJ : K ≤ J) (G : Grew P col col' w w') (hP : ∀ u, P u → ¬ inF f u ∧ u ≠ 2) : FnAt J s f F r col' w' := by
  refine ⟨h.cnt, h.big, fun m hm => ?_, h.nil, h.dom, h.meg, h.mnil, h.old, fun hg k t x hk hx => ⟨(h.new hg k t x hk hx).1.grew G (fun u hu => ⟨fun e => (hP u hu).1 ?_, (hP u hu).2⟩), (h.new hg k t x hk hx).2⟩⟩
  · obtain ⟨⟨c, h1, h2⟩, h3⟩ := h.map m hm
    have lm := mapP_lt h1
    refine ⟨⟨c, mapP_keep h1 (G.keep.block m lm (fun e => (hP _ e).1 ?_)), by omega⟩, by rw [G.old m lm]; exact h3⟩
    rw [h3]
    unfold inF cM
    omega
  · have hk' := h.dom _ x hx
    have := h.big
    rw [e]
    unfold inF cS
    omega

structure TbAt (K s : Nat) (T : Tb) (tb n g cap : Nat) (fs : List Fm) (col : Nat → Nat) (w : World) : Prop where
  bt : Blk tb 69 #[.pointer (some ⟨n, 0, none⟩)] w
  bn : Blk n 94 #[.slice (some ⟨g, 0, none⟩) fs.length cap, .int .i64 (T.hits : Int), .int .i64 (T.misses : Int)] w
  row : w.ownsRow 0 97 3 (.slice (some ⟨g, 0, none⟩) fs.length cap) fs.length (fs.map fmC).flatten
  len : fs.length = T.all.length
  fn : ∀ (f : Nat) (F : Fm) (r : List St), fs[f]? = some F → T.all[f]? = some r → FnAt K s f F r col w
  one : col tb = 1 ∧ col n = 1 ∧ col g = 1
  top : ∀ b, w.heap.size ≤ b → col b = 0
  hit : T.hits ≤ K ∧ T.misses ≤ K
section
variable {K s : Nat} {T : Tb} {tb n g cap : Nat} {fs : List Fm} {col : Nat → Nat} {w : World}
theorem TbAt.lt (p : TbAt K s T tb n g cap fs col w) : tb < w.heap.size ∧ n < w.heap.size ∧ g < w.heap.size := by
  refine ⟨blk_lt p.bt, blk_lt p.bn, ?_⟩
  obtain ⟨cur, hc⟩ := row_lt p.row (g := g) rfl
  exact blk_lt hc
theorem TbAt.cells (p : TbAt K s T tb n g cap fs col w) : w.cell? ⟨tb, 0, none⟩ = some (.pointer (some ⟨n, 0, none⟩)) ∧ w.cell? ⟨n, 0, none⟩ = some (.slice (some ⟨g, 0, none⟩) fs.length cap) ∧ w.cell? ⟨n, 1, none⟩ = some (.int .i64 (T.hits : Int)) ∧ w.cell? ⟨n, 2, none⟩ = some (.int .i64 (T.misses : Int)) :=
  ⟨by rw [blk_cell p.bt]; rfl, by rw [blk_cell p.bn]; rfl, by rw [blk_cell p.bn]; rfl, by rw [blk_cell p.bn]; rfl⟩
theorem TbAt.fcell (p : TbAt K s T tb n g cap fs col w) {f : Nat} {F : Fm} (hf : fs[f]? = some F) : w.cell? ⟨g, f * 3, none⟩ = some (.int .i64 F.count) ∧ w.cell? ⟨g, f * 3 + 1, none⟩ = some (.bool F.mega) ∧ w.cell? ⟨g, f * 3 + 2, none⟩ = some (.map F.m) := by
  have hm : (fs.map fmC)[f]? = some (fmC F) := by rw [List.getElem?_map, hf]; rfl
  exact ⟨row_cell p.row (by have := flat_at (j := 0) (fmC_len fs) hm (by omega); simpa [fmC] using this), row_cell p.row (by have := flat_at (j := 1) (fmC_len fs) hm (by omega); simpa [fmC] using this), row_cell p.row (by have := flat_at (j := 2) (fmC_len fs) hm (by omega); simpa [fmC] using this)⟩
theorem TbAt.get (p : TbAt K s T tb n g cap fs col w) {f : Nat} {r : List St} (hr : T.all[f]? = some r) : ∃ F, fs[f]? = some F ∧ FnAt K s f F r col w := by
  have hl : f < fs.length := by rw [p.len]; exact lt_of_get hr
  exact ⟨fs[f], List.getElem?_eq_getElem hl, p.fn f _ r (List.getElem?_eq_getElem hl) hr⟩
/-- the skeleton is as it was, and one function has changed -/
theorem TbAt.chg {P : Nat → Prop} {J : Nat} {r r' : List St} {F F' : Fm} {f : Nat} {col' : Nat → Nat} {w' : World} (p : TbAt K s T tb n g cap fs col w) (hJ : K ≤ J) (hf : fs[f]? = some F) (hr : T.all[f]? = some r) (G : Grew P col col' w w') (hP : ∀ u, P u → u ≠ 2 ∧ ∀ f', f' ≠ f → ¬ inF f' u)
    (bt : Blk tb 69 #[.pointer (some ⟨n, 0, none⟩)] w') (bn : Blk n 94 #[.slice (some ⟨g, 0, none⟩) fs.length cap, .int .i64 (T.hits : Int), .int .i64 (T.misses : Int)] w')
    (row : w'.ownsRow 0 97 3 (.slice (some ⟨g, 0, none⟩) fs.length cap) fs.length ((fs.set f F').map fmC).flatten) (h : FnAt J s f F' r' col' w') : TbAt J s { T with all := T.all.set f r' } tb n g cap (fs.set f F') col' w' := by
  have o := p.one
  have l := p.lt
  refine ⟨bt, by rw [List.length_set]; exact bn, by rw [List.length_set]; exact row, by rw [List.length_set, p.len]; exact (List.length_set ..).symm, fun f' F1 r1 h1 h2 => ?_, ⟨by rw [G.old _ l.1]; exact o.1, by rw [G.old _ l.2.1]; exact o.2.1, by rw [G.old _ l.2.2]; exact o.2.2⟩, G.top, ⟨Nat.le_trans p.hit.1 hJ, Nat.le_trans p.hit.2 hJ⟩⟩
  by_cases e : f' = f
  · subst e
    have hl1 := lt_of_get hf
    have hl2 := lt_of_get hr
    rw [List.getElem?_set_self hl1] at h1
    have h2' : (T.all.set f' r')[f']? = some r1 := h2
    rw [List.getElem?_set_self hl2] at h2'
    injection h1 with h1
    injection h2' with h2'
    subst h1 h2'
    exact h
  · rw [List.getElem?_set_ne (fun h => e h.symm)] at h1
    have h2' : (T.all.set f r')[f']? = some r1 := h2
    rw [List.getElem?_set_ne (fun h => e h.symm)] at h2'
    exact (p.fn f' F1 r1 h1 h2').grew hJ G (fun u hu => ⟨(hP u hu).2 f' e, (hP u hu).1⟩)
theorem grew_new {a b : World} (k : Below a.heap.size a b) (t : Nat) : Grew (fun _ => False) col (ext col a.heap.size b.heap.size t) a b :=
  ⟨fun _ hx => ext_old hx, fun x hx => by have := k.size; unfold ext; rw [if_neg (by omega), if_neg (by omega)], Keep.of k⟩
theorem grew_up {P : Nat → Prop} {a b : World} (k : Keep (fun x => P (col x)) a b) (t : Nat) : Grew P col (ext col a.heap.size b.heap.size t) a b :=
  ⟨fun _ hx => ext_old hx, fun x hx => by have := k.size; unfold ext; rw [if_neg (by omega), if_neg (by omega)], k⟩
theorem TbAt.rowset {f j : Nat} {F F' : Fm} {v : Value} (p : TbAt K s T tb n g cap fs col w) (hf : fs[f]? = some F) (hj : j < 3) (h : (fmC F).set j v = fmC F') : (w.setCell ⟨g, f * 3 + j, none⟩ v).ownsRow 0 97 3 (.slice (some ⟨g, 0, none⟩) fs.length cap) fs.length ((fs.set f F').map fmC).flatten := by
  have hm : (fs.map fmC)[f]? = some (fmC F) := by rw [List.getElem?_map, hf]; rfl
  have r := row_set p.row (f * 3 + j) v
  rw [flat_set v (fmC_len fs) hm hj, h, ← List.map_set] at r
  exact r
/-- nothing of it was written -/
theorem TbAt.same {P : Nat → Prop} {J : Nat} {col' : Nat → Nat} {w' : World} (p : TbAt K s T tb n g cap fs col w) (hJ : K ≤ J) (G : Grew P col col' w w') (hP : ∀ u, P u → u = 0) : TbAt J s T tb n g cap fs col' w' := by
  have o := p.one
  have l := p.lt
  have n1 : ∀ b, col b = 1 → ¬ P (col b) := fun b hb e => by have := hP _ e; omega
  refine ⟨blk_keep p.bt G.keep (n1 _ o.1), blk_keep p.bn G.keep (n1 _ o.2.1), row_keep p.row (fun b hb => ?_), p.len, fun f F r h1 h2 => (p.fn f F r h1 h2).grew hJ G (fun u hu => ⟨by rw [hP u hu]; unfold inF; omega, by have := hP u hu; omega⟩), ⟨by rw [G.old _ l.1]; exact o.1, by rw [G.old _ l.2.1]; exact o.2.1, by rw [G.old _ l.2.2]; exact o.2.2⟩, G.top, ⟨Nat.le_trans p.hit.1 hJ, Nat.le_trans p.hit.2 hJ⟩⟩
  injection hb with hb
  subst hb
  exact G.keep.block g l.2.2 (n1 _ o.2.2)
theorem TbAt.on {w' : World} (p : TbAt K s T tb n g cap fs col w) (k : Below w.heap.size w w') : TbAt K s T tb n g cap fs col w' := p.same (Nat.le_refl _) (Grew.below (P := fun u => u = 0) k p.top) (fun _ h => h)
theorem TbAt.more {J : Nat} (p : TbAt K s T tb n g cap fs col w) (hJ : K ≤ J) : TbAt J s T tb n g cap fs col w := p.same hJ (Grew.below (P := fun u => u = 0) (Below.refl _ _) p.top) (fun _ h => h)
/-- a table's sites in the blocks of S -/
def TbZ (S : Nat → Prop) (K tb s : Nat) (T : Tb) (w : World) : Prop := ∃ n g cap fs col, TbAt K s T tb n g cap fs col w ∧ ∀ b, col b ≠ 0 → S b
end
theorem fam_tb (K tb s : Nat) (T : Tb) : Fam (fun S w => TbZ S K tb s T w) where
  mono := fun ⟨n, g, cap, fs, col, p, hs⟩ h => ⟨n, g, cap, fs, col, p, fun b hb => h b (Nat.lt_of_not_le (fun e => hb (p.top b e))) (hs b hb)⟩
  keep := fun {S U a b} ⟨n, g, cap, fs, col, p, hs⟩ k h => ⟨n, g, cap, fs, col, p.same (Nat.le_refl _) (P := fun u => u = 0) ⟨fun _ _ => rfl, fun x hx => p.top x (Nat.le_trans k.size hx), k.mono (fun x hx e => Classical.byContradiction fun hne => h x hx (hs x hne) e)⟩ (fun _ h => h), hs⟩
theorem fam_hp (K h s : Nat) (H : He) : Fam (fun S w => HpZ S K h s H w) where
  mono := fun p h => p.mono h
  keep := fun p k h => p.keep k h
theorem TbZ.more {S : Nat → Prop} {K J tb s : Nat} {T : Tb} {w : World} (p : TbZ S K tb s T w) (hJ : K ≤ J) : TbZ S J tb s T w := by
  obtain ⟨n, g, cap, fs, col, p, hs⟩ := p
  exact ⟨n, g, cap, fs, col, p.more hJ, hs⟩
/-- behind a change, as a table in the blocks of S -/
theorem tb_done {P : Nat → Prop} {S : Nat → Prop} {K s : Nat} {T : Tb} {tb n g cap : Nat} {fs : List Fm} {col col' : Nat → Nat} {w w' : World} (p : TbAt K s T tb n g cap fs col' w') (G : Grew P col col' w w') (hP : ∀ u, P u → u ≠ 0) (hS : ∀ b, col b ≠ 0 → S b) : TbZ (Up S w) K tb s T w' ∧ Keep S w w' := by
  refine ⟨⟨n, g, cap, fs, col', p, fun b hb => ?_⟩, G.keep.mono (fun b _ e => hS b (hP _ e))⟩
  by_cases hl : b < w.heap.size
  · exact .inl (hS b (by rw [← G.old b hl]; exact hb))
  · exact .inr (by omega)
theorem modify_set {α : Type} {l : List α} {i : Nat} {x : α} (f : α → α) (h : l[i]? = some x) : l.modify i f = l.set i (f x) := by
  apply List.ext_getElem?
  intro j
  rw [List.getElem?_modify, List.getElem?_set]
  by_cases e : i = j
  · subst e
    have hl := lt_of_get h
    rw [if_pos rfl, if_pos hl, h]
    simp
  · rw [if_neg e]
    simp [e]
theorem siteT_some {T : Tb} {f k : Int} {t : St} (h : siteT T f k = some t) : ∃ (i j : Nat) (r : List St), f = i ∧ k = j ∧ T.all[i]? = some r ∧ r[j]? = some t := by
  unfold siteT at h
  split at h
  · rename_i hc
    cases hr : T.all[f.toNat]? with
    | none => rw [hr] at h; cases h
    | some r => rw [hr] at h; exact ⟨f.toNat, k.toNat, r, by omega, by omega, hr, h⟩
  · cases h

end Go.Proofs.YtimhgbcanmgajaaGreat
