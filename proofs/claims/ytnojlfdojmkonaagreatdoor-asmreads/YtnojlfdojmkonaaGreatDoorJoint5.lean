/- One element more at the end of a row of one's own: append(row, x). What comes behind an instruction: the program's word. -/
import Derived.Test.YtnojlfdojmkonaaGreatDoorMapG
import Derived.Test.YtnojlfdojmkonaaGreatDoorCdEff
namespace Go.Proofs.YtnojlfdojmkonaaGreatDoor
open Go.RowKit

/-- what a row's element type is: cells, bytes -/
def Elem (sT eT : TypeId) (z bytes : Nat) : Prop := Tryz.prog.underlying sT = some (.slice eT) ∧ ∃ i z0, Tryz.prog.info? eT = some i ∧ i.zero = some z0 ∧ z0.cells.size = z ∧ i.size = z ∧ i.bytes = bytes
theorem elem_of {sT eT : TypeId} {z bytes : Nat} {z0 : Value} (h1 : Tryz.prog.underlying sT = some (.slice eT)) (h2 : (Tryz.prog.info? eT).map (fun i => (i.zero, i.size, i.bytes)) = some (some z0, z, bytes)) (h3 : z0.cells.size = z) : Elem sT eT z bytes := by
  obtain ⟨i0, a, b, c, d⟩ := info_parts h2
  exact ⟨h1, i0, z0, a, b, h3, c, d⟩
theorem row_app_wp {sT eT : TypeId} {z bytes : Nat} (hE : Elem sT eT z bytes) (hz : 0 < z) (hby : bytes ≤ 1000) {o : Oper} {a : Act} {K : Act → World → Prop} {Q : Exit → Act → World → Prop} {w W : World} (s x : Operand)
    (ho : o.op = .call { callee := .builtin .append, args := #[s, x], argTypes := #[sT, sT] }) (n : Nat) (xs news : List Value) (hnl : news.length = z) (one : ∀ u ∈ news, u.oneCell' = true) (v : Value) (hs : a.eval s = v) (hown : w.ownsRow 0 eT z v n xs)
    (nb : Nat) (hx : a.eval x = .slice (some ⟨nb, 0, none⟩) 1 1) (hnb : nb = w.heap.size) (hlen : n ≤ 1000000) (hW : W = w.alloc (.cells news.toArray eT) ∨ W = (w.alloc (.cells news.toArray eT)).drew ∨ W = w.drew.alloc (.cells news.toArray eT))
    (h : ∀ g cap w', w'.ownsRow 0 eT z (.slice (some ⟨g, 0, none⟩) (n + 1) cap) (n + 1) (xs ++ news) → w.grownBy w' v.ownBlock → (v.ownBlock = some g ∨ w.heap.size ≤ g) → K (a.put o.dst (.slice (some ⟨g, 0, none⟩) (n + 1) cap)) w') : o.wp Tryz.prog a W K Q := by
  subst hnb
  obtain ⟨hu, i0, z0, hi, hz0, hzc, hz1, hz2⟩ := hE
  have A : Below w.heap.size w W := by
    rcases hW with rfl | rfl | rfl
    · exact (Below.refl w.heap.size w).alloc (Nat.le_refl _) _
    · exact ((Below.refl w.heap.size w).alloc (Nat.le_refl _) _).drew
    · exact (Below.refl w.heap.size w).drew.alloc (Nat.le_refl _) _
  have hsz : W.heap.size = w.heap.size + 1 := by rcases hW with rfl | rfl | rfl <;> simp
  have hnew : W.heap[w.heap.size]? = some (.cells news.toArray eT (0, 0)) := by
    rcases hW with rfl | rfl | rfl
    · exact heap_alloc_new w _
    · exact heap_alloc_new w _
    · exact heap_alloc_new w.drew _
  have hb : (n + 1) * bytes ≤ 140737488355328 := by
    have h1 : (n + 1) * bytes ≤ 1000001 * 1000 := Nat.mul_le_mul (by omega) hby
    omega
  refine wp_append_lies _ s x sT ho 0 eT i0 z0 z bytes hu hi hz0 hz1 hz2 hzc hz v n xs hs (row_keep hown (fun g hg => by
    obtain ⟨cur, hc⟩ := row_lt hown hg
    exact A.block g (blk_lt hc))) ⟨w.heap.size, 0, none⟩ 1 1 news hx (by omega) (World.news_of_block hnew) one (by decide) (by unfold maxLen; omega) hb (Nat.zero_le _) (w.heap.size + 1) hsz ?_
  intro g cap w' hown' hgrow hat hlt
  refine h g cap w' hown' ?_ ?_
  · refine ⟨hgrow.os.trans A.os, hgrow.tape.trans A.tape, hgrow.output.trans A.output, Nat.le_trans A.size hgrow.size, fun k hk hne => ?_⟩
    rw [hgrow.block k (by omega) hne, A.block k hk]
  · rcases hat with h1 | h1
    · exact .inl h1
    · exact .inr (by omega)
/-- in a plain region -/
theorem row_app {sT eT : TypeId} {z bytes : Nat} (hE : Elem sT eT z bytes) (hz : 0 < z) (hby : bytes ≤ 1000) {ops : Array Oper} {rest : List Oper} {o : Oper} {a : Act} {Q : Exit → Act → World → Prop} {w : World} (hgd : o.guard = none) (s x : Operand)
    (ho : o.op = .call { callee := .builtin .append, args := #[s, x], argTypes := #[sT, sT] }) (n : Nat) (xs news : List Value) (hnl : news.length = z) (one : ∀ u ∈ news, u.oneCell' = true) (v : Value) (hs : a.eval s = v) (hown : w.ownsRow 0 eT z v n xs)
    (nb : Nat) (hx : a.eval x = .slice (some ⟨nb, 0, none⟩) 1 1) (hnb : nb = w.heap.size) (hlen : n ≤ 1000000)
    (h : ∀ g cap w', w'.ownsRow 0 eT z (.slice (some ⟨g, 0, none⟩) (n + 1) cap) (n + 1) (xs ++ news) → w.grownBy w' v.ownBlock → (v.ownBlock = some g ∨ w.heap.size ≤ g) → wpList Tryz.prog ops Q rest (a.put o.dst (.slice (some ⟨g, 0, none⟩) (n + 1) cap)) w') :
    wpList Tryz.prog ops Q (o :: rest) a (w.alloc (.cells news.toArray eT)) :=
  wpList_plain hgd fun _ hK' => row_app_wp hE hz hby s x ho n xs news hnl one v hs hown nb hx hnb hlen (.inl rfl) fun g cap w' h1 h2 h3 => hK' _ _ (h g cap w' h1 h2 h3)
/-- as a step of a region that draws -/
theorem row_app_step {sT eT : TypeId} {z bytes : Nat} (hE : Elem sT eT z bytes) (hz : 0 < z) (hby : bytes ≤ 1000) {ops : Array Oper} {o : Oper} {a : Act} {K : Act → World → Prop} {Q : Exit → Act → World → Prop} {E : Prop} {w W : World} (hgd : o.guard = none) (s x : Operand)
    (ho : o.op = .call { callee := .builtin .append, args := #[s, x], argTypes := #[sT, sT] }) (n : Nat) (xs news : List Value) (hnl : news.length = z) (one : ∀ u ∈ news, u.oneCell' = true) (v : Value) (hs : a.eval s = v) (hown : w.ownsRow 0 eT z v n xs)
    (nb : Nat) (hx : a.eval x = .slice (some ⟨nb, 0, none⟩) 1 1) (hnb : nb = w.heap.size) (hlen : n ≤ 1000000) (hW : W = w.alloc (.cells news.toArray eT) ∨ W = (w.alloc (.cells news.toArray eT)).drew ∨ W = w.drew.alloc (.cells news.toArray eT))
    (h : ∀ g cap w', w'.ownsRow 0 eT z (.slice (some ⟨g, 0, none⟩) (n + 1) cap) (n + 1) (xs ++ news) → w.grownBy w' v.ownBlock → (v.ownBlock = some g ∨ w.heap.size ≤ g) → K (a.put o.dst (.slice (some ⟨g, 0, none⟩) (n + 1) cap)) w') :
    if Region.wanted o (yielded ops a.tmps) = true then Oper.wp Tryz.prog o a W K Q else E := by
  rw [if_pos (by simp [Region.wanted, hgd])]
  exact row_app_wp hE hz hby s x ho n xs news hnl one v hs hown nb hx hnb hlen hW h

end Go.Proofs.YtnojlfdojmkonaaGreatDoor

namespace Go.Proofs.YtnojlfdojmkonaaGreatDoor
set_option linter.unusedSimpArgs false
set_option maxRecDepth 100000
open Go.RowKit

abbrev cdV (c : Cd) (iv : Value) : Value := .agg #[.int .i64 c.p, .int .i64 c.l, .int .i64 c.s, .int .i64 c.d, iv]
theorem tgT_neg {is : List In} {k : Int} (h : k < 0) : tgT is k = [] := by unfold tgT; rw [if_pos h]
theorem tgT_big {is : List In} {k : Nat} (h : is.length ≤ k) : tgT is (k : Int) = [] := by
  unfold tgT
  rw [if_neg (by omega)]
  unfold tgL
  rw [Int.toNat_natCast, List.getElem?_eq_none h]
theorem tgT_at {is : List In} {k : Nat} {x : In} (h : is[k]? = some x) : tgT is (k : Int) = tgI x.1 x.2.1 k := by
  unfold tgT
  rw [if_neg (by omega)]
  unfold tgL
  rw [Int.toNat_natCast, h]
def IntsR (g : Nat) (F : List Int) (w : World) : Prop := Blk g 3 (F.map (Value.int .i64)).toArray w
/-- what Targets answers: nothing, or a row of its own -/
def TgN (lo : Nat) (v : Value) (xs : List Int) (w : World) : Prop := (v = .slice none 0 0 ∧ xs = []) ∨ ∃ b, v = .slice (some ⟨b, 0, none⟩) xs.length xs.length ∧ lo ≤ b ∧ IntsR b xs w
theorem tgT_nat (is : List In) (k : Nat) : tgT is (k : Int) = tgL is k := by unfold tgT; rw [if_neg (by omega), Int.toNat_natCast]
set_option maxHeartbeats 3200000 in
theorem targets_calls (B : Nat) (c : Cd) (iv : Value) (k : Int) (w : World) (hB : B ≤ w.heap.size) (hI : InsIn B w iv c.ins) (hl : c.ins.length ≤ 1000000) :
    Calls Tryz.prog 49 #[cdV c iv, .int .i64 k] w fun e w' => ∃ v, e = .returned v ∧ TgN w.heap.size v (tgT c.ins k) w' ∧ Below w.heap.size w w' := by
  obtain ⟨p, l, s, d, is⟩ := c
  simp only [cdV] at *
  obtain ⟨ao, cap, rfl⟩ := insIn_shape hI
  have AL := hid (box_below w (.cells #[.int .i64 p, .int .i64 l, .int .i64 s, .int .i64 d, .slice ao is.length cap] 45))
  have BL := hid (blk_new w 45 #[.int .i64 p, .int .i64 l, .int .i64 s, .int .i64 d, .slice ao is.length cap])
  by_cases hk0 : k < 0
  · have H := hid (tgT_neg (is := is) hk0)
    go_enter Tryz.func49, Tryz.ntmps49
    go_wp2_with fail
    go_ret
    exact ⟨_, rfl, by rw [H.out]; exact .inl ⟨rfl, rfl⟩, AL.out⟩
  obtain ⟨j, rfl⟩ : ∃ j : Nat, k = (j : Int) := ⟨k.toNat, by omega⟩
  have c4 := blk_cellZ BL.out 4 rfl
  have hI1 := hid (insIn_on hI (AL.out.mono hB))
  have hsz : (w.alloc (.cells #[.int .i64 p, .int .i64 l, .int .i64 s, .int .i64 d, .slice ao is.length cap] 45)).heap.size = w.heap.size + 1 := by simp
  clear hI
  generalize hW : w.alloc (.cells #[.int .i64 p, .int .i64 l, .int .i64 s, .int .i64 d, .slice ao is.length cap] 45) = w1 at *
  rcases Nat.lt_or_ge j is.length with hj | hj
  rotate_left 1
  · have H := hid (tgT_big hj)
    have hj' : (is.length : Int) ≤ (j : Int) := by omega
    clear hj
    go_enter Tryz.func49, Tryz.ntmps49
    go_wp2_with fail
    go_ret
    exact ⟨_, rfl, by rw [H.out]; exact .inl ⟨rfl, rfl⟩, AL.out⟩
  obtain ⟨x, hx⟩ : ∃ x, is[j]? = some x := ⟨_, List.getElem?_eq_getElem hj⟩
  obtain ⟨b, off, rfl, hb, i0, i1, i2⟩ := insIn_at hI1.out hx
  have H := hid (tgT_at hx)
  obtain ⟨o, a, bb⟩ := x
  have hj' : (j : Int) < (is.length : Int) := by omega
  have hlj : j < 1000000 := by omega
  clear hk0
  have BL2 := hid (blk_new w1 67 #[.int .i64 o, .int .i64 a, .int .i64 bb])
  have AL2 := hid (AL.out.trans ((box_below w1 (.cells #[.int .i64 o, .int .i64 a, .int .i64 bb] 67)).mono (by omega)))
  have e0 := blk_cellZ BL2.out 0 rfl
  have e1 := blk_cellZ BL2.out 1 rfl
  have hz2 : w.heap.size ≤ (w1.alloc (.cells #[.int .i64 o, .int .i64 a, .int .i64 bb] 67)).heap.size := by simp; omega
  simp only at i0 i1 i2
  rw [hsz] at BL2 e0 e1
  have e0 : (w1.alloc (.cells #[.int .i64 o, .int .i64 a, .int .i64 bb] 67)).cell? ⟨w.heap.size + 1, 0, none⟩ = some (.int .i64 o) := e0
  have e1 : (w1.alloc (.cells #[.int .i64 o, .int .i64 a, .int .i64 bb] 67)).cell? ⟨w.heap.size + 1, 1, none⟩ = some (.int .i64 a) := e1
  by_cases h32 : o = 32
  · subst h32
    go_enter Tryz.func49, Tryz.ntmps49
    go_upto_region 4 with fail
    generalize hW2 : w1.alloc (.cells #[.int .i64 32, .int .i64 a, .int .i64 bb] 67) = w2 at *
    go_wp2_with fail
    go_ret
    exact ⟨_, rfl, by rw [H.out]; exact .inl ⟨rfl, rfl⟩, AL2.out⟩
  have b32 : (o == 32) = false := beq_eq_false_iff_ne.2 h32
  by_cases h22 : o = 22
  · subst h22
    go_enter Tryz.func49, Tryz.ntmps49
    go_upto_region 4 with fail
    generalize hW2 : w1.alloc (.cells #[.int .i64 22, .int .i64 a, .int .i64 bb] 67) = w2 at *
    have N := hid (blk_new w2 3 #[.int .i64 a])
    have AL3 := hid (AL2.out.trans ((box_below w2 (.cells #[.int .i64 a] 3)).mono hz2))
    go_wp2_with fail
    go_ret
    exact ⟨_, rfl, by rw [H.out]; exact .inr ⟨_, rfl, hz2, N.out⟩, AL3.out⟩
  have b22 : (o == 22) = false := beq_eq_false_iff_ne.2 h22
  by_cases hg : goB o = true
  · replace H := hid (H.out.trans (show tgI o a j = [(j : Int) + 1, a] by unfold tgI; rw [if_neg h32, if_neg h22, if_pos hg]))
    have G := hid (goes_calls o)
    rw [hg] at G
    clear h32 h22
    go_enter Tryz.func49, Tryz.ntmps49
    go_upto_region 4 with fail
    generalize hW2 : w1.alloc (.cells #[.int .i64 o, .int .i64 a, .int .i64 bb] 67) = w2 at *
    have N := hid (blk_new w2 3 #[.int .i64 ((j : Int) + 1), .int .i64 a])
    have AL3 := hid (AL2.out.trans ((box_below w2 (.cells #[.int .i64 ((j : Int) + 1), .int .i64 a] 3)).mono hz2))
    go_wp2_with fail
    refine (G.out _).mono ?_
    rintro e w3 ⟨rfl, rfl⟩
    go_wp2_with fail
    go_ret
    exact ⟨_, rfl, by rw [H.out]; exact .inr ⟨_, rfl, hz2, N.out⟩, AL3.out⟩
  · have hg : goB o = false := by simpa using hg
    replace H := hid (H.out.trans (show tgI o a j = [(j : Int) + 1] by unfold tgI; rw [if_neg h32, if_neg h22, if_neg (by rw [hg]; decide)]))
    have G := hid (goes_calls o)
    rw [hg] at G
    clear h32 h22
    go_enter Tryz.func49, Tryz.ntmps49
    go_upto_region 4 with fail
    generalize hW2 : w1.alloc (.cells #[.int .i64 o, .int .i64 a, .int .i64 bb] 67) = w2 at *
    have N := hid (blk_new w2 3 #[.int .i64 ((j : Int) + 1)])
    have AL3 := hid (AL2.out.trans ((box_below w2 (.cells #[.int .i64 ((j : Int) + 1)] 3)).mono hz2))
    go_wp2_with fail
    refine (G.out _).mono ?_
    rintro e w3 ⟨rfl, rfl⟩
    go_wp2_with fail
    go_ret
    exact ⟨_, rfl, by rw [H.out]; exact .inr ⟨_, rfl, hz2, N.out⟩, AL3.out⟩

end Go.Proofs.YtnojlfdojmkonaaGreatDoor
