/- The law's own small program: it is read, and printed. The document's program while it is read, in memory. -/
import Derived.Test.YtnojlfdojmkonaaGreatDoorAsRd5
import Derived.Test.YtnojlfdojmkonaaGreatDoorAsPr
import Derived.Test.YtnojlfdojmkonaaGreatDoorAsMem
namespace Go.Proofs.YtnojlfdojmkonaaGreatDoor
set_option linter.unusedSimpArgs false
set_option maxRecDepth 100000
open Go.RowKit

def wkC : Cd := ⟨0, 0, 0, 1, [(2, 0, 0), (32, 0, 0)]⟩
def wkP : Pg := ⟨0, [], [wkC]⟩
def wkT : List UInt8 := [103, 108, 111, 98, 97, 108, 115, 32, 48, 10, 99, 111, 100, 101, 32, 48, 32, 48, 32, 48, 32, 49, 10, 110, 117, 108, 108, 10, 114, 101, 116, 10]
theorem wk_text : txL (pgLP wkP) = wkT := by decide
theorem wk_right : rightC 0 0 1 wkC = true := by decide
theorem wk_sizes : sizesB wkP = true := by decide
theorem wk_check : checkP wkP := by
  refine ⟨wk_sizes, fun c hc => ?_⟩
  rw [List.mem_singleton.1 hc]
  refine ⟨wk_right, [0, 1], rfl, rfl, fun k d hd => ?_⟩
  match k, hd with
  | 0, hd =>
    simp at hd
    subst hd
    refine .inr ⟨by decide, ⟨by decide, fun t e h => ?_⟩, 0, rfl, rfl⟩
    rw [show nxL wkC.ins 0 0 = [(1, 1)] by decide] at h
    simp at h
    obtain ⟨rfl, rfl⟩ := h
    exact ⟨by decide, 1, rfl, rfl⟩
  | 1, hd =>
    simp at hd
    subst hd
    refine .inr ⟨by decide, ⟨by decide, fun t e h => ?_⟩, 1, 0, 0, ⟨rfl, rfl⟩, ?_⟩
    · rw [show nxL wkC.ins 1 1 = [] by decide] at h
      cases h
    · rw [show nxL wkC.ins 0 0 = [(1, 1)] by decide]
      simp
  | k + 2, hd => simp at hd
theorem wk_read : readL wkT = .got wkP := by
  rw [← wk_text]
  exact read_right wk_sizes fun c hc => by rw [List.mem_singleton.1 hc]; exact wk_right
theorem libW_up {B C : Nat} {w : World} (h : LibW B w) (h1 : B ≤ C) (h2 : C ≤ w.heap.size) : LibW C w := ⟨h2, Nat.le_trans h.few h1, h.mx, h.sy, h.rg⟩
def wkS : ByteArray := ⟨#[103, 108, 111, 98, 97, 108, 115, 32, 48, 10, 99, 111, 100, 101, 32, 48, 32, 48, 32, 48, 32, 49, 10, 110, 117, 108, 108, 10, 114, 101, 116, 10]⟩
theorem wk_is {P : Pg} {a e : Int} (h : ReadIs wkS.data.toList P a e) : P = wkP ∧ a = 0 ∧ e = 0 := by
  unfold ReadIs at h
  rw [show wkS.data.toList = wkT from rfl, wk_read] at h
  rcases h with ⟨_, h1, h2, h3⟩ | ⟨h, _⟩
  · exact ⟨h1, h2, h3⟩
  · exact absurd wk_check h
theorem wk_g : wkP.g = 0 := rfl
theorem wk_p : wkP.pool.length = 0 := rfl
theorem wk_c : wkP.codes.length = 1 := rfl
theorem wk_i : wkC.ins.length = 2 := rfl
set_option maxHeartbeats 3200000 in
theorem works16_calls {B : Nat} (w : World) (hL : LibW B w) : Calls Tryz.prog 8 #[] w fun e w' => e = .returned (.bool true) ∧ Below w.heap.size w w' := by
  have RD := hid (aread_calls wkS w (hid (libW_up hL hL.le (Nat.le_refl _))) (by decide))
  clear hL
  go_enter Tryz.func8, Tryz.ntmps8
  go_wp2_with fail
  refine RD.out.mono ?_
  rintro e w2 ⟨⟨P, pv, cv, a, er, rfl, hI, hP⟩, b2⟩
  obtain ⟨rfl, rfl, rfl⟩ := wk_is hI
  have PR := hid (aprint_calls w2.heap.size wkP pv cv)
  have HP := hid hP
  obtain ⟨pa, pc, rfl⟩ := plIn_shape hP.pool
  obtain ⟨ca, cc, rfl⟩ := cdsIn_shape hP.codes
  obtain ⟨cb, off, hca, hcb, iv, c0, c1, c2, c3, c4, hI2⟩ := cdsIn_at hP.codes (i := 0) (c := wkC) rfl
  subst hca
  obtain ⟨ia, ic, rfl⟩ := insIn_shape hI2
  have B2 := hid b2
  have C4 := hid c4
  clear hI hP b2 c0 c1 c2 c3 c4 hI2 RD
  simp only [pgV, wk_g, wk_p, wk_c, wk_i] at *
  have AL := hid (box_below w2 (.cells #[.int .i64 0, .slice pa 0 pc, .slice (some ⟨cb, off, none⟩) 1 cc] 25))
  have BL := hid (blk_new w2 25 #[.int .i64 0, .slice pa 0 pc, .slice (some ⟨cb, off, none⟩) 1 cc])
  go_wp2_with fail
  generalize hW3 : w2.alloc (.cells #[.int .i64 0, .slice pa 0 pc, .slice (some ⟨cb, off, none⟩) 1 cc] 25) = w3 at *
  clear hW3
  have HP3 := hid (PgIn.on HP.out AL.out)
  refine (PR.out w3 AL.out.size HP3).mono ?_
  rintro e w4 ⟨⟨r, t, rfl, hr⟩, b4⟩
  have hrt : r = 0 ∧ t = wkS := by
    rcases hr with ⟨h1, _, h2⟩ | ⟨_, h, _⟩
    · exact ⟨h1, by rw [h2, wk_text]; rfl⟩
    · exact absurd wk_check h
  obtain ⟨rfl, rfl⟩ := hrt
  have L4 := hid (B2.out.trans ((AL.out.trans (b4.mono AL.out.size)).mono B2.out.size))
  have hb4 := blk_on BL.out b4
  have p2 : w4.cell? ⟨w2.heap.size, 2, none⟩ = some (.slice (some ⟨cb, off, none⟩) 1 cc) := blk_cellZ hb4 2 rfl
  have ci4 : w4.cell? ⟨cb, off + 4, none⟩ = some (.slice ia 2 ic) := by
    have h1 : Below w2.heap.size w2 w4 := AL.out.trans (b4.mono AL.out.size)
    have := cellB h1 (p := ⟨cb, off + 0 * 5 + 4, none⟩) hcb C4.out
    simpa using this
  have NM := hid (aname_calls 24 w4)
  have hop : (⟨(opW 24).toArray⟩ : ByteArray) = ⟨#[97, 110, 100]⟩ := by decide
  rw [hop] at NM
  clear hr b4 hb4 hop
  unfold wkS
  go_wp2_with fail
  refine NM.out.mono ?_
  rintro e w5 ⟨rfl, b5⟩
  have L5 := hid (L4.out.trans (b5.mono L4.out.size))
  clear b5
  go_wp2_with fail
  go_ret
  exact ⟨rfl, L5.out⟩
theorem read_good {l : List UInt8} {P : Pg} {a : Int} (h : ReadIs l P a 0) : checkP P ∧ txL (pgLP P) = l ∧ a = 0 := by
  unfold ReadIs at h
  cases hr : readL l with
  | bad n =>
    rw [hr] at h
    exact absurd h.2.2 (by decide)
  | got Q =>
    rw [hr] at h
    rcases h with ⟨h1, h2, h3, _⟩ | ⟨_, _, _, h⟩
    · subst h2
      exact ⟨h1, (read_once hr).1, h3⟩
    · exact absurd h (by decide)
theorem read_poor {l : List UInt8} {P : Pg} {a e : Int} (h : ReadIs l P a e) (he : e ≠ 0) : P = pg0 := by
  unfold ReadIs at h
  cases hr : readL l with
  | bad n => rw [hr] at h; exact h.1
  | got Q =>
    rw [hr] at h
    rcases h with ⟨_, _, _, h⟩ | ⟨_, h, _⟩
    · exact absurd h he
    · exact h
theorem read_of {P : Pg} (h : checkP P) {Q : Pg} {a e : Int} (hr : ReadIs (txL (pgLP P)) Q a e) : Q = P ∧ a = 0 ∧ e = 0 := by
  unfold ReadIs at hr
  rw [read_right h.1 (fun c hc => (h.2 c hc).1)] at hr
  rcases hr with ⟨_, h1, h2, h3⟩ | ⟨h', _⟩
  · exact ⟨h1, h2, h3⟩
  · exact absurd h h'
theorem pg0_g : pg0.g = 0 := rfl
theorem pg0_p : pg0.pool.length = 0 := rfl
theorem pg0_c : pg0.codes.length = 0 := rfl

end Go.Proofs.YtnojlfdojmkonaaGreatDoor

namespace Go.Proofs.YtnojlfdojmkonaaGreatDoor
set_option linter.unusedSimpArgs false
open Go.RowKit

/-- the document's program at block r, so far -/
structure DrB (B r : Nat) (P : Pg) (pv cv : Value) (xs : List Cv) (w : World) : Prop where
  low : B ≤ r
  blk : Blk r 25 #[.int .i64 P.g, pv, cv] w
  pool : w.ownsRow 0 9 1 pv P.pool.length (P.pool.map Value.string)
  codes : w.ownsRow 0 45 5 cv xs.length (cdC xs)
  ins : ∀ x ∈ xs, w.ownsRow 0 67 3 x.2 x.1.ins.length (inC x.1.ins)
  fst : xs.map Prod.fst = P.codes
  plow : ∀ g, pv.ownBlock = some g → B ≤ g
  clow : ∀ g, cv.ownBlock = some g → B ≤ g
  ilow : ∀ x ∈ xs, ∀ g, x.2.ownBlock = some g → B ≤ g
  last : ∀ ys x, xs = ys ++ [x] → ∀ g, x.2.ownBlock = some g → ∀ y ∈ ys, y.2.ownBlock ≠ some g
theorem DrB.rlt {B r : Nat} {P : Pg} {pv cv : Value} {xs : List Cv} {w : World} (h : DrB B r P pv cv xs w) : r < w.heap.size := blk_lt h.blk
/-- whatever is written elsewhere -/
theorem DrB.keep {B r : Nat} {P : Pg} {pv cv : Value} {xs : List Cv} {S : Nat → Prop} {a c : World} (h : DrB B r P pv cv xs a) (k : Keep S a c) (h1 : ¬ S r) (h2 : ∀ g, pv.ownBlock = some g → ¬ S g) (h3 : ∀ g, cv.ownBlock = some g → ¬ S g) (h4 : ∀ x ∈ xs, ∀ g, x.2.ownBlock = some g → ¬ S g) : DrB B r P pv cv xs c := by
  have hk : ∀ {T z n v ys}, a.ownsRow 0 T z v n ys → (∀ g, v.ownBlock = some g → ¬ S g) → c.ownsRow 0 T z v n ys := fun hr hs => row_keep hr (fun g hg => by
    obtain ⟨cur, hc⟩ := row_lt hr hg
    exact k.block g (blk_lt hc) (hs g hg))
  exact ⟨h.low, blk_keep h.blk k h1, hk h.pool h2, hk h.codes h3, fun x hx => hk (h.ins x hx) (h4 x hx), h.fst, h.plow, h.clow, h.ilow, h.last⟩
theorem DrB.on {B r : Nat} {P : Pg} {pv cv : Value} {xs : List Cv} {a c : World} (h : DrB B r P pv cv xs a) (q : Below a.heap.size a c) : DrB B r P pv cv xs c :=
  h.keep (Keep.of (S := fun _ => False) q) (fun h => h) (fun _ _ h => h) (fun _ _ h => h) (fun _ _ _ _ h => h)
/-- another number of globals -/
theorem DrB.glo {B r : Nat} {P : Pg} {pv cv : Value} {xs : List Cv} {a c : World} {g : Int} (h : DrB B r P pv cv xs a) (k : Keep (fun b => b = r) a c) (hb : Blk r 25 #[.int .i64 g, pv, cv] c) : DrB B r ⟨g, P.pool, P.codes⟩ pv cv xs c := by
  have hk : ∀ {T z n v ys}, T ≠ 25 → a.ownsRow 0 T z v n ys → c.ownsRow 0 T z v n ys := fun ht hr => row_keep hr (fun g hg => by
    obtain ⟨cur, hc⟩ := row_lt hr hg
    exact k.block g (blk_lt hc) (blk_ne hc h.blk ht))
  exact ⟨h.low, hb, hk (by decide) h.pool, hk (by decide) h.codes, fun x hx => hk (by decide) (h.ins x hx), h.fst, h.plow, h.clow, h.ilow, h.last⟩
/-- one string more -/
theorem DrB.str {B r : Nat} {P : Pg} {pv cv : Value} {xs : List Cv} {w w2 : World} {s : ByteArray} {g cap : Nat} (hB : B ≤ w.heap.size) (h : DrB B r P pv cv xs w) (hown : w2.ownsRow 0 9 1 (.slice (some ⟨g, 0, none⟩) (P.pool.length + 1) cap) (P.pool.length + 1) (P.pool.map Value.string ++ [.string s]))
    (hgrow : w.grownBy w2 pv.ownBlock) (hat : pv.ownBlock = some g ∨ w.heap.size ≤ g) :
    DrB B r ⟨P.g, P.pool ++ [s], P.codes⟩ (.slice (some ⟨g, 0, none⟩) (P.pool.length + 1) cap) cv xs (w2.setCell ⟨r, 1, none⟩ (.slice (some ⟨g, 0, none⟩) (P.pool.length + 1) cap)) := by
  have k1 : Keep (fun b => pv.ownBlock = some b) w w2 := Keep.grown hgrow (fun k hk => hk)
  have hr2 : Blk r 25 #[.int .i64 P.g, pv, cv] w2 := blk_keep h.blk k1 (fun e => by
    obtain ⟨cur, hc⟩ := row_lt h.pool e
    exact blk_ne hc h.blk (by decide) rfl)
  have k2 := Keep.set (S := fun b => b = r) (g := r) rfl w2 1 (.slice (some ⟨g, 0, none⟩) (P.pool.length + 1) cap)
  have hk : ∀ {T z n v ys}, T ≠ 25 → T ≠ 9 → w.ownsRow 0 T z v n ys → (w2.setCell ⟨r, 1, none⟩ (.slice (some ⟨g, 0, none⟩) (P.pool.length + 1) cap)).ownsRow 0 T z v n ys := fun ht ht2 hr => row_keep hr (fun b hb => by
    obtain ⟨cur, hc⟩ := row_lt hr hb
    have hn : ¬ pv.ownBlock = some b := fun e => by
      obtain ⟨cur', hc'⟩ := row_lt h.pool e
      exact blk_ne hc hc' ht2 rfl
    rw [k2.block b (Nat.lt_of_lt_of_le (blk_lt hc) k1.size) (blk_ne hc h.blk ht), k1.block b (blk_lt hc) hn])
  refine ⟨h.low, blk_set hr2 1 _, ?_, hk (by decide) (by decide) h.codes, fun x hx => hk (by decide) (by decide) (h.ins x hx), h.fst, fun b hb => ?_, h.clow, h.ilow, h.last⟩
  · rw [List.length_append, List.map_append]
    exact row_keep hown (fun b hb => by
      simp [Value.ownBlock] at hb
      subst hb
      obtain ⟨cur, hc⟩ := row_lt hown (g := g) rfl
      exact k2.block g (blk_lt hc) (blk_ne hc hr2 (by decide)))
  · simp [Value.ownBlock] at hb
    subst hb
    rcases hat with h1 | h1
    · exact h.plow _ h1
    · omega
/-- one code more, without instructions -/
theorem DrB.cod {B r : Nat} {P : Pg} {pv cv : Value} {xs : List Cv} {w w2 : World} {p l s d : Int} {g cap : Nat} (hB : B ≤ w.heap.size) (h : DrB B r P pv cv xs w) (hown : w2.ownsRow 0 45 5 (.slice (some ⟨g, 0, none⟩) (xs.length + 1) cap) (xs.length + 1) (cdC xs ++ [.int .i64 p, .int .i64 l, .int .i64 s, .int .i64 d, .slice none 0 0]))
    (hgrow : w.grownBy w2 cv.ownBlock) (hat : cv.ownBlock = some g ∨ w.heap.size ≤ g) :
    DrB B r ⟨P.g, P.pool, P.codes ++ [⟨p, l, s, d, []⟩]⟩ pv (.slice (some ⟨g, 0, none⟩) (xs.length + 1) cap) (xs ++ [(⟨p, l, s, d, []⟩, .slice none 0 0)]) (w2.setCell ⟨r, 2, none⟩ (.slice (some ⟨g, 0, none⟩) (xs.length + 1) cap)) := by
  have k1 : Keep (fun b => cv.ownBlock = some b) w w2 := Keep.grown hgrow (fun k hk => hk)
  have hr2 : Blk r 25 #[.int .i64 P.g, pv, cv] w2 := blk_keep h.blk k1 (fun e => by
    obtain ⟨cur, hc⟩ := row_lt h.codes e
    exact blk_ne hc h.blk (by decide) rfl)
  have k2 := Keep.set (S := fun b => b = r) (g := r) rfl w2 2 (.slice (some ⟨g, 0, none⟩) (xs.length + 1) cap)
  have hk : ∀ {T z n v ys}, T ≠ 25 → T ≠ 45 → w.ownsRow 0 T z v n ys → (w2.setCell ⟨r, 2, none⟩ (.slice (some ⟨g, 0, none⟩) (xs.length + 1) cap)).ownsRow 0 T z v n ys := fun ht ht2 hr => row_keep hr (fun b hb => by
    obtain ⟨cur, hc⟩ := row_lt hr hb
    have hn : ¬ cv.ownBlock = some b := fun e => by
      obtain ⟨cur', hc'⟩ := row_lt h.codes e
      exact blk_ne hc hc' ht2 rfl
    rw [k2.block b (Nat.lt_of_lt_of_le (blk_lt hc) k1.size) (blk_ne hc h.blk ht), k1.block b (blk_lt hc) hn])
  refine ⟨h.low, blk_set hr2 2 _, hk (by decide) (by decide) h.pool, ?_, fun x hx => ?_, by rw [List.map_append, h.fst]; rfl, h.plow, fun b hb => ?_, fun x hx b hb => ?_, fun ys x e b hb => ?_⟩
  · rw [List.length_append, cdC_app]
    exact row_keep hown (fun b hb => by
      simp [Value.ownBlock] at hb
      subst hb
      obtain ⟨cur, hc⟩ := row_lt hown (g := g) rfl
      exact k2.block g (blk_lt hc) (blk_ne hc hr2 (by decide)))
  · rcases List.mem_append.1 hx with hx | hx
    · exact hk (by decide) (by decide) (h.ins x hx)
    · rw [List.mem_singleton.1 hx]
      exact World.ownsRow_nil _ _ _ _
  · simp [Value.ownBlock] at hb
    subst hb
    rcases hat with h1 | h1
    · exact h.clow _ h1
    · omega
  · rcases List.mem_append.1 hx with hx | hx
    · exact h.ilow x hx b hb
    · rw [List.mem_singleton.1 hx] at hb
      simp [Value.ownBlock] at hb
  · have := List.append_inj' e rfl
    have h2 := List.cons.inj this.2
    rw [← h2.1] at hb
    simp [Value.ownBlock] at hb
/-- one instruction more -/
theorem DrB.one {B r : Nat} {P : Pg} {pv : Value} {ys : List Cv} {c : Cd} {iv : Value} {w w2 : World} {x : In} {q qc g cap : Nat} (hB : B ≤ w.heap.size) (h : DrB B r P pv (.slice (some ⟨q, 0, none⟩) (ys.length + 1) qc) (ys ++ [(c, iv)]) w)
    (hown : w2.ownsRow 0 67 3 (.slice (some ⟨g, 0, none⟩) (c.ins.length + 1) cap) (c.ins.length + 1) (inC c.ins ++ [.int .i64 x.1, .int .i64 x.2.1, .int .i64 x.2.2]))
    (hgrow : w.grownBy w2 iv.ownBlock) (hat : iv.ownBlock = some g ∨ w.heap.size ≤ g) :
    DrB B r ⟨P.g, P.pool, P.codes.dropLast ++ [⟨c.p, c.l, c.s, c.d, c.ins ++ [x]⟩]⟩ pv (.slice (some ⟨q, 0, none⟩) (ys.length + 1) qc) (ys ++ [(⟨c.p, c.l, c.s, c.d, c.ins ++ [x]⟩, .slice (some ⟨g, 0, none⟩) (c.ins.length + 1) cap)]) (w2.setCell ⟨q, 5 * ys.length + 4, none⟩ (.slice (some ⟨g, 0, none⟩) (c.ins.length + 1) cap)) := by
  have hiv := h.ins (c, iv) (by simp)
  simp only at hiv
  have k1 : Keep (fun b => iv.ownBlock = some b) w w2 := Keep.grown hgrow (fun k hk => hk)
  have k2 := Keep.set (S := fun b => b = q) (g := q) rfl w2 (5 * ys.length + 4) (.slice (some ⟨g, 0, none⟩) (c.ins.length + 1) cap)
  obtain ⟨ccur, hcb⟩ := row_lt h.codes (g := q) rfl
  have hcb2 : Blk q 45 ccur w2 := blk_keep hcb k1 (fun e => by
    obtain ⟨cur, hc⟩ := row_lt hiv e
    exact blk_ne hc hcb (by decide) rfl)
  have hcodes2 : w2.ownsRow 0 45 5 (.slice (some ⟨q, 0, none⟩) (ys.length + 1) qc) (ys.length + 1) (cdC (ys ++ [(c, iv)])) := by
    have := row_keep h.codes (c := w2) (fun b hb => by
      simp [Value.ownBlock] at hb
      subst hb
      exact k1.block q (blk_lt hcb) (fun e => by
        obtain ⟨cur, hc⟩ := row_lt hiv e
        exact blk_ne hc hcb (by decide) rfl))
    rwa [List.length_append] at this
  have hk : ∀ {T z n v zs}, T ≠ 45 → T ≠ 67 → w.ownsRow 0 T z v n zs → (w2.setCell ⟨q, 5 * ys.length + 4, none⟩ (.slice (some ⟨g, 0, none⟩) (c.ins.length + 1) cap)).ownsRow 0 T z v n zs := fun ht ht2 hr => row_keep hr (fun b hb => by
    obtain ⟨cur, hc⟩ := row_lt hr hb
    have hn : ¬ iv.ownBlock = some b := fun e => by
      obtain ⟨cur', hc'⟩ := row_lt hiv e
      exact blk_ne hc hc' ht2 rfl
    rw [k2.block b (Nat.lt_of_lt_of_le (blk_lt hc) k1.size) (blk_ne hc hcb ht), k1.block b (blk_lt hc) hn])
  have hgq : g ≠ q := by
    obtain ⟨cur, hc⟩ := row_lt hown (g := g) rfl
    exact blk_ne hc hcb2 (by decide)
  refine ⟨h.low, ?_, hk (by decide) (by decide) h.pool, ?_, fun y hy => ?_, ?_, h.plow, h.clow, fun y hy b hb => ?_, fun zs y e b hb => ?_⟩
  · have hn : ¬ iv.ownBlock = some r := fun e => by
      obtain ⟨cur', hc'⟩ := row_lt hiv e
      exact blk_ne hc' h.blk (by decide) rfl
    exact (k2.block r (Nat.lt_of_lt_of_le h.rlt k1.size) (blk_ne h.blk hcb (by decide))).trans ((k1.block r h.rlt hn).trans h.blk)
  · rw [List.length_append, cdC_ins ys c ⟨c.p, c.l, c.s, c.d, c.ins ++ [x]⟩ _ ⟨rfl, rfl, rfl, rfl⟩, ← cdC_set ys c iv]
    exact row_set hcodes2 _ _
  · rcases List.mem_append.1 hy with hy | hy
    · have h0 := h.ins y (by simp [hy])
      exact row_keep h0 (fun b hb => by
        obtain ⟨cur, hc⟩ := row_lt h0 hb
        have hn : ¬ iv.ownBlock = some b := fun e => h.last ys (c, iv) rfl b e y hy hb
        rw [k2.block b (Nat.lt_of_lt_of_le (blk_lt hc) k1.size) (blk_ne hc hcb (by decide)), k1.block b (blk_lt hc) hn])
    · rw [List.mem_singleton.1 hy]
      simp only [List.length_append, List.length_singleton]
      rw [inC_app]
      exact row_keep hown (fun b hb => by
        simp [Value.ownBlock] at hb
        subst hb
        obtain ⟨cur, hc⟩ := row_lt hown (g := g) rfl
        exact k2.block g (blk_lt hc) hgq)
  · have hf := h.fst
    rw [List.map_append] at hf
    simp only [List.map_cons, List.map_nil] at hf
    rw [← hf, List.map_append, List.dropLast_concat]
    rfl
  · rcases List.mem_append.1 hy with hy | hy
    · exact h.ilow y (by simp [hy]) b hb
    · rw [List.mem_singleton.1 hy] at hb
      simp [Value.ownBlock] at hb
      subst hb
      rcases hat with h1 | h1
      · exact h.ilow (c, iv) (by simp) _ h1
      · omega
  · have := List.append_inj' e rfl
    have h2 := List.cons.inj this.2
    rw [← h2.1] at hb
    simp [Value.ownBlock] at hb
    subst hb
    intro y' hy' hy2
    rw [← this.1] at hy'
    rcases hat with h1 | h1
    · exact h.last ys (c, iv) rfl _ h1 y' hy' hy2
    · have h0 := h.ins y' (by simp [hy'])
      obtain ⟨cur, hc⟩ := row_lt h0 hy2
      have := blk_lt hc
      omega
/-- as a program that came in -/
theorem DrB.pg {B r : Nat} {P : Pg} {pv cv : Value} {xs : List Cv} {w : World} (h : DrB B r P pv cv xs w) (h1 : P.pool.length ≤ 1000000) (h2 : P.codes.length ≤ 1000000) (h3 : ∀ c ∈ P.codes, c.ins.length ≤ 1000000) (h4 : ∀ s ∈ P.pool, s.size ≤ maxLen) : PgIn w.heap.size w P pv cv := by
  have hl : xs.length = P.codes.length := by rw [← h.fst, List.length_map]
  have hins : ∀ x ∈ xs, InsIn w.heap.size w x.2 x.1.ins := fun x hx => by
    have h0 := h.ins x hx
    rcases Nat.eq_zero_or_pos x.1.ins.length with hz | hz
    · obtain ⟨ao, cap, e⟩ := row_shape h0
      rw [hz] at e
      exact .inl ⟨ao, cap, e, List.length_eq_zero_iff.1 hz⟩
    · obtain ⟨g, cap, e, _, hg⟩ := h0.form hz
      rw [e] at h0
      refine .inr ⟨g, 0, cap, e, hg, fun i y hy => ?_⟩
      obtain ⟨a1, a2, a3⟩ := inC_at hy
      rw [Nat.zero_add, Nat.mul_comm]
      exact ⟨row_cell h0 a1, row_cell h0 a2, row_cell h0 a3⟩
  refine ⟨?_, ?_, ⟨h1, h2⟩, h3, h4⟩
  · rcases Nat.eq_zero_or_pos P.pool.length with hz | hz
    · obtain ⟨ao, cap, e⟩ := row_shape h.pool
      rw [hz] at e
      exact .inl ⟨ao, cap, e, List.length_eq_zero_iff.1 hz⟩
    · have h0 := h.pool
      obtain ⟨g, cap, e, _, hg⟩ := h0.form hz
      rw [e] at h0
      exact .inr ⟨g, 0, cap, e, hg, fun i s hs => by rw [Nat.zero_add]; exact row_cell h0 (by rw [List.getElem?_map, hs]; rfl)⟩
  · rcases Nat.eq_zero_or_pos xs.length with hz | hz
    · obtain ⟨ao, cap, e⟩ := row_shape h.codes
      rw [hz] at e
      exact .inl ⟨ao, cap, e, List.length_eq_zero_iff.1 (by rw [← hl]; exact hz)⟩
    · have h0 := h.codes
      obtain ⟨g, cap, e, _, hg⟩ := h0.form hz
      rw [e] at h0
      refine .inr ⟨g, 0, cap, by rw [e, hl], hg, fun i c hc => ?_⟩
      rw [← h.fst, List.getElem?_map] at hc
      obtain ⟨x, hx, rfl⟩ := Option.map_eq_some_iff.1 hc
      obtain ⟨a1, a2, a3, a4, a5⟩ := cdC_at hx
      rw [Nat.zero_add, Nat.mul_comm]
      exact ⟨x.2, row_cell h0 a1, row_cell h0 a2, row_cell h0 a3, row_cell h0 a4, row_cell h0 a5, hins x (List.mem_of_getElem? hx)⟩

end Go.Proofs.YtnojlfdojmkonaaGreatDoor
