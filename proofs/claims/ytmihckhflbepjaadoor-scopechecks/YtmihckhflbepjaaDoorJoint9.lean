/- All nodes, by induction. One element more at the end of a row of one's own: append(row, x). What Check asks of a node alone: within, isExpr, isNamed, hasRoom. -/
import Derived.Test.YtmihckhflbepjaaDoorScFun
import Derived.Test.YtmihckhflbepjaaDoorScNode
import Derived.Test.YtmihckhflbepjaaDoorMapG
import Derived.Test.YtmihckhflbepjaaDoorNdOwn
import Derived.Test.YtmihckhflbepjaaDoorScLaid
import Derived.Test.YtmihckhflbepjaaDoorScMay
namespace Go.Proofs.YtmihckhflbepjaaDoor
open Go.RowKit

theorem node_calls (t : Nd) : NodeRes t := by
  refine Nd.ind (P := NodeRes) ?_ t
  intro k o n s ns ks p ih
  exact node_of k o n s ns ks p (each_of ks ih) (fun h => by subst h; exact fun_of o n s ns ks p (each_of ks ih))
theorem each_calls (ks : List Nd) : KidsRes ks := each_of ks (fun x _ => node_calls x)

end Go.Proofs.YtmihckhflbepjaaDoor

namespace Go.Proofs.YtmihckhflbepjaaDoor
open Go.RowKit

/-- what a row's element type is: cells, bytes -/
def Elem (sT eT : TypeId) (z bytes : Nat) : Prop := Tryd.prog.underlying sT = some (.slice eT) ∧ ∃ i z0, Tryd.prog.info? eT = some i ∧ i.zero = some z0 ∧ z0.cells.size = z ∧ i.size = z ∧ i.bytes = bytes
theorem elem_of {sT eT : TypeId} {z bytes : Nat} {z0 : Value} (h1 : Tryd.prog.underlying sT = some (.slice eT)) (h2 : (Tryd.prog.info? eT).map (fun i => (i.zero, i.size, i.bytes)) = some (some z0, z, bytes)) (h3 : z0.cells.size = z) : Elem sT eT z bytes := by
  obtain ⟨i0, a, b, c, d⟩ := info_parts h2
  exact ⟨h1, i0, z0, a, b, h3, c, d⟩
theorem row_app_wp {sT eT : TypeId} {z bytes : Nat} (hE : Elem sT eT z bytes) (hz : 0 < z) (hby : bytes ≤ 1000) {o : Oper} {a : Act} {K : Act → World → Prop} {Q : Exit → Act → World → Prop} {w W : World} (s x : Operand)
    (ho : o.op = .call { callee := .builtin .append, args := #[s, x], argTypes := #[sT, sT] }) (n : Nat) (xs news : List Value) (hnl : news.length = z) (one : ∀ u ∈ news, u.oneCell' = true) (v : Value) (hs : a.eval s = v) (hown : w.ownsRow 0 eT z v n xs)
    (nb : Nat) (hx : a.eval x = .slice (some ⟨nb, 0, none⟩) 1 1) (hnb : nb = w.heap.size) (hlen : n ≤ 1000000) (hW : W = w.alloc (.cells news.toArray eT) ∨ W = (w.alloc (.cells news.toArray eT)).drew ∨ W = w.drew.alloc (.cells news.toArray eT))
    (h : ∀ g cap w', w'.ownsRow 0 eT z (.slice (some ⟨g, 0, none⟩) (n + 1) cap) (n + 1) (xs ++ news) → w.grownBy w' v.ownBlock → (v.ownBlock = some g ∨ w.heap.size ≤ g) → K (a.put o.dst (.slice (some ⟨g, 0, none⟩) (n + 1) cap)) w') : o.wp Tryd.prog a W K Q := by
  subst hnb
  obtain ⟨hu, i0, z0, hi, hz0, hzc, hz1, hz2⟩ := hE
  have A : Below w.heap.size w W := by
    rcases hW with rfl | rfl | rfl
    · exact (Below.refl w.heap.size w).alloc (Nat.le_refl _) _
    · exact ((Below.refl w.heap.size w).alloc (Nat.le_refl _) _).drew
    · exact (Below.refl w.heap.size w).drew.alloc (Nat.le_refl _) _
  have hsz : W.heap.size = w.heap.size + 1 := by rcases hW with rfl | rfl | rfl <;> simp
  have hnew : W.heap[w.heap.size]? = some (.cells news.toArray eT (0, 0)) := by
    rcases hW with rfl | rfl | rfl
    · exact heap_alloc_new w _
    · exact heap_alloc_new w _
    · exact heap_alloc_new w.drew _
  have hb : (n + 1) * bytes ≤ 140737488355328 := by
    have h1 : (n + 1) * bytes ≤ 1000001 * 1000 := Nat.mul_le_mul (by omega) hby
    omega
  refine wp_append_lies _ s x sT ho 0 eT i0 z0 z bytes hu hi hz0 hz1 hz2 hzc hz v n xs hs (row_keep hown (fun g hg => by
    obtain ⟨cur, hc⟩ := row_lt hown hg
    exact A.block g (blk_lt hc))) ⟨w.heap.size, 0, none⟩ 1 1 news hx (by omega) (World.news_of_block hnew) one (by decide) (by unfold maxLen; omega) hb (Nat.zero_le _) (w.heap.size + 1) hsz ?_
  intro g cap w' hown' hgrow hat hlt
  refine h g cap w' hown' ?_ ?_
  · refine ⟨hgrow.os.trans A.os, hgrow.tape.trans A.tape, hgrow.output.trans A.output, Nat.le_trans A.size hgrow.size, fun k hk hne => ?_⟩
    rw [hgrow.block k (by omega) hne, A.block k hk]
  · rcases hat with h1 | h1
    · exact .inl h1
    · exact .inr (by omega)
/-- in a plain region -/
theorem row_app {sT eT : TypeId} {z bytes : Nat} (hE : Elem sT eT z bytes) (hz : 0 < z) (hby : bytes ≤ 1000) {ops : Array Oper} {rest : List Oper} {o : Oper} {a : Act} {Q : Exit → Act → World → Prop} {w : World} (hgd : o.guard = none) (s x : Operand)
    (ho : o.op = .call { callee := .builtin .append, args := #[s, x], argTypes := #[sT, sT] }) (n : Nat) (xs news : List Value) (hnl : news.length = z) (one : ∀ u ∈ news, u.oneCell' = true) (v : Value) (hs : a.eval s = v) (hown : w.ownsRow 0 eT z v n xs)
    (nb : Nat) (hx : a.eval x = .slice (some ⟨nb, 0, none⟩) 1 1) (hnb : nb = w.heap.size) (hlen : n ≤ 1000000)
    (h : ∀ g cap w', w'.ownsRow 0 eT z (.slice (some ⟨g, 0, none⟩) (n + 1) cap) (n + 1) (xs ++ news) → w.grownBy w' v.ownBlock → (v.ownBlock = some g ∨ w.heap.size ≤ g) → wpList Tryd.prog ops Q rest (a.put o.dst (.slice (some ⟨g, 0, none⟩) (n + 1) cap)) w') :
    wpList Tryd.prog ops Q (o :: rest) a (w.alloc (.cells news.toArray eT)) :=
  wpList_plain hgd fun _ hK' => row_app_wp hE hz hby s x ho n xs news hnl one v hs hown nb hx hnb hlen (.inl rfl) fun g cap w' h1 h2 h3 => hK' _ _ (h g cap w' h1 h2 h3)
/-- as a step of a region that draws -/
theorem row_app_step {sT eT : TypeId} {z bytes : Nat} (hE : Elem sT eT z bytes) (hz : 0 < z) (hby : bytes ≤ 1000) {ops : Array Oper} {o : Oper} {a : Act} {K : Act → World → Prop} {Q : Exit → Act → World → Prop} {E : Prop} {w W : World} (hgd : o.guard = none) (s x : Operand)
    (ho : o.op = .call { callee := .builtin .append, args := #[s, x], argTypes := #[sT, sT] }) (n : Nat) (xs news : List Value) (hnl : news.length = z) (one : ∀ u ∈ news, u.oneCell' = true) (v : Value) (hs : a.eval s = v) (hown : w.ownsRow 0 eT z v n xs)
    (nb : Nat) (hx : a.eval x = .slice (some ⟨nb, 0, none⟩) 1 1) (hnb : nb = w.heap.size) (hlen : n ≤ 1000000) (hW : W = w.alloc (.cells news.toArray eT) ∨ W = (w.alloc (.cells news.toArray eT)).drew ∨ W = w.drew.alloc (.cells news.toArray eT))
    (h : ∀ g cap w', w'.ownsRow 0 eT z (.slice (some ⟨g, 0, none⟩) (n + 1) cap) (n + 1) (xs ++ news) → w.grownBy w' v.ownBlock → (v.ownBlock = some g ∨ w.heap.size ≤ g) → K (a.put o.dst (.slice (some ⟨g, 0, none⟩) (n + 1) cap)) w') :
    if Region.wanted o (yielded ops a.tmps) = true then Oper.wp Tryd.prog o a W K Q else E := by
  rw [if_pos (by simp [Region.wanted, hgd])]
  exact row_app_wp hE hz hby s x ho n xs news hnl one v hs hown nb hx hnb hlen hW h

end Go.Proofs.YtmihckhflbepjaaDoor

namespace Go.Proofs.YtmihckhflbepjaaDoor
set_option linter.unusedSimpArgs false
open Go.RowKit

theorem within_calls (n a b : Int) (w : World) : Calls Tryd.prog 45 #[.int .i64 n, .int .i64 a, .int .i64 b] w fun e w' => e = .returned (.bool (withB n a b)) ∧ Below w.heap.size w w' := by
  have H := hid (show withB n a b = (decide (a ≤ n) && decide (n ≤ b)) from rfl)
  cases h1 : decide (a ≤ n) <;> cases h2 : decide (n ≤ b)
  all_goals
    go_enter Tryd.func45, Tryd.ntmps45
    go_wp2_with fail
    go_ret
    exact ⟨by rw [H.out, h1, h2]; rfl, Below.refl _ _⟩
theorem isExpr_calls (k o n : Int) (s : ByteArray) (a1 a2 : Option Addr) (l1 q1 l2 q2 : Nat) (p : Int) (w : World) :
    Calls Tryd.prog 87 #[.agg #[.int .i64 k, .int .i64 o, .int .i64 n, .string s, .slice a1 l1 q1, .slice a2 l2 q2, .int .i64 p]] w fun e w' => e = .returned (.bool (decide (sortK k = 1))) ∧ Below w.heap.size w w' := by
  have A := hid ((Below.refl w.heap.size w).alloc (Nat.le_refl _) (.cells #[.int .i64 k, .int .i64 o, .int .i64 n, .string s, .slice a1 l1 q1, .slice a2 l2 q2, .int .i64 p] 25))
  have H := hid (show decide (sortK k = 1) = (decide (1 ≤ k) && decide (k ≤ 20)) from by
    unfold sortK
    by_cases h : 1 ≤ k ∧ k ≤ 20
    · rw [if_pos h]; simp [h.1, h.2]
    · rw [if_neg h]
      have : (decide (1 ≤ k) && decide (k ≤ 20)) = false := by simpa using h
      rw [this]
      split <;> simp)
  cases h1 : decide (1 ≤ k) <;> cases h2 : decide (k ≤ 20)
  all_goals
    go_enter Tryd.func87, Tryd.ntmps87
    go_wp2_with fail
    go_ret
    exact ⟨by rw [H.out, h1, h2]; rfl, A.out⟩
theorem hasRoom_calls (i : Nat) (hi : i ≤ 1000000) (p l : Int) (a2 : Option Addr) (l2 q2 : Nat) (w : World) :
    Calls Tryd.prog 46 #[.agg #[.int .i64 p, .int .i64 l, .slice a2 l2 q2], .int .i64 i] w fun e w' => e = .returned (.bool (roomB i p l)) ∧ Below w.heap.size w w' := by
  have A := hid ((Below.refl w.heap.size w).alloc (Nat.le_refl _) (.cells #[.int .i64 p, .int .i64 l, .slice a2 l2 q2] 45))
  have X := hid (blk_new w 45 #[.int .i64 p, .int .i64 l, .slice a2 l2 q2])
  by_cases h0 : i = 0
  · subst h0
    have H := hid (show roomB 0 p l = ((p == 0) && (l == 0)) from rfl)
    cases h1 : (p == 0) <;> cases h2 : (l == 0)
    all_goals
      go_enter Tryd.func46, Tryd.ntmps46
      go_wp2_with fail
      go_ret
      exact ⟨by rw [H.out, h1, h2]; rfl, A.out⟩
  · have H := hid (show roomB i p l = (withB p 0 6 && withB l p 24) from by unfold roomB; rw [if_neg h0])
    have hi0 : ((i : Int) == 0) = false := by simpa using h0
    go_enter Tryd.func46, Tryd.ntmps46
    go_wp2_with fail
    refine (within_calls _ _ _ _).mono ?_
    rintro e1 w1 ⟨rfl, b1⟩
    have B1 := hid (below_on A.out b1)
    have x1 := blk_on X.out b1
    obtain ⟨c0, c1⟩ : w1.cell? ⟨w.heap.size, 0, none⟩ = some (.int .i64 p) ∧ w1.cell? ⟨w.heap.size, 1, none⟩ = some (.int .i64 l) := ⟨(blk_cell x1 0).trans rfl, (blk_cell x1 1).trans rfl⟩
    clear b1 x1 A X
    cases hw : withB p 0 6
    · rw [hw] at H
      go_wp2_with fail
      go_ret
      exact ⟨by rw [H.out]; rfl, B1.out⟩
    · rw [hw] at H
      go_wp2_with fail
      refine (within_calls _ _ _ _).mono ?_
      rintro e2 w2 ⟨rfl, b2⟩
      have B2 := hid (below_on B1.out b2)
      clear b2
      go_wp2_with fail
      go_ret
      exact ⟨by rw [H.out]; rfl, B2.out⟩
set_option maxHeartbeats 1600000 in
theorem isNamed_calls (b : Bds) (hb : (-1000000 ≤ b.1 ∧ b.1 ≤ 1000000) ∧ (-1000000 ≤ b.2.1 ∧ b.2.1 ≤ 1000000) ∧ (-1000000 ≤ b.2.2 ∧ b.2.2 ≤ 1000000)) (k o n : Int) (s : ByteArray) (a1 a2 : Option Addr) (l1 q1 l2 q2 : Nat) (p : Int) (w : World) :
    Calls Tryd.prog 75 #[.agg #[.int .i64 b.1, .int .i64 b.2.1, .int .i64 b.2.2], .agg #[.int .i64 k, .int .i64 o, .int .i64 n, .string s, .slice a1 l1 q1, .slice a2 l2 q2, .int .i64 p]] w fun e w' => e = .returned (.bool (namedB b k n)) ∧ Below w.heap.size w w' := by
  obtain ⟨L, G, F⟩ := b
  dsimp only at hb ⊢
  have A := hid (((Below.refl w.heap.size w).alloc (Nat.le_refl _) (.cells #[.int .i64 L, .int .i64 G, .int .i64 F] 77)).alloc (by simp) (.cells #[.int .i64 k, .int .i64 o, .int .i64 n, .string s, .slice a1 l1 q1, .slice a2 l2 q2, .int .i64 p] 25))
  have H := hid (show namedB (L, G, F) k n = if k = 5 ∨ k = 8 ∨ k = 21 ∨ k = 22 then false else if k = 18 ∨ k = 33 then withB n 0 (L - 1) else if k = 19 ∨ k = 34 then withB n 0 (G - 1) else if k = 20 then withB n 0 (F - 1) else true from rfl)
  have ways : k = 5 ∨ k = 8 ∨ k = 21 ∨ k = 22 ∨ k = 18 ∨ k = 33 ∨ k = 19 ∨ k = 34 ∨ k = 20 ∨ (k ≠ 5 ∧ k ≠ 8 ∧ k ≠ 21 ∧ k ≠ 22 ∧ k ≠ 18 ∧ k ≠ 33 ∧ k ≠ 19 ∧ k ≠ 34 ∧ k ≠ 20) := by omega
  rcases ways with rfl | rfl | rfl | rfl | rfl | rfl | rfl | rfl | rfl | ⟨h1, h2, h3, h4, h5, h6, h7, h8, h9⟩
  iterate 4
    · go_enter Tryd.func75, Tryd.ntmps75
      go_wp2_with fail
      go_ret
      exact ⟨by rw [H.out]; rfl, A.out⟩
  iterate 5
    · go_enter Tryd.func75, Tryd.ntmps75
      go_wp2_with fail
      refine (within_calls _ _ _ _).mono ?_
      rintro e1 w1 ⟨rfl, b1⟩
      have B1 := hid (below_on A.out b1)
      clear b1
      go_wp2_with fail
      go_ret
      exact ⟨by rw [H.out]; first | rfl | (congr 2; go_num), B1.out⟩
  · go_enter Tryd.func75, Tryd.ntmps75
    go_wp2_with fail
    go_ret
    exact ⟨by rw [H.out, if_neg (by omega), if_neg (by omega), if_neg (by omega), if_neg (by omega)]; rfl, A.out⟩
theorem un_same {k n : Int} (h : k ≠ 18 ∧ k ≠ 19 ∧ k ≠ 20 ∧ k ≠ 33 ∧ k ≠ 34) : unK k = k ∧ unM k n = n := by
  unfold unK unM
  rw [if_neg (by omega), if_neg (by omega), if_neg (by omega)]
  exact ⟨rfl, rfl⟩
end Go.Proofs.YtmihckhflbepjaaDoor
