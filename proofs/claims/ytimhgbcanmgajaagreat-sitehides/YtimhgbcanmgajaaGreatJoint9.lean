/- One element more at the end of a row of one's own: append(row, x). A shape more: in the list, in its parent's map. Set, as a dict has it. -/
import Derived.Test.YtimhgbcanmgajaaGreatMapG
import Derived.Test.YtimhgbcanmgajaaGreatJoint2
import Derived.Test.YtimhgbcanmgajaaGreatShMem
import Derived.Deep.RegionHeld3
import Derived.Test.YtimhgbcanmgajaaGreatDcSet
namespace Go.Proofs.YtimhgbcanmgajaaGreat
open Go.RowKit

/-- what a row's element type is: cells, bytes -/
def Elem (sT eT : TypeId) (z bytes : Nat) : Prop := Tryz.prog.underlying sT = some (.slice eT) ∧ ∃ i z0, Tryz.prog.info? eT = some i ∧ i.zero = some z0 ∧ z0.cells.size = z ∧ i.size = z ∧ i.bytes = bytes
theorem elem_of {sT eT : TypeId} {z bytes : Nat} {z0 : Value} (h1 : Tryz.prog.underlying sT = some (.slice eT)) (h2 : (Tryz.prog.info? eT).map (fun i => (i.zero, i.size, i.bytes)) = some (some z0, z, bytes)) (h3 : z0.cells.size = z) : Elem sT eT z bytes := by
  obtain ⟨i0, a, b, c, d⟩ := info_parts h2
  exact ⟨h1, i0, z0, a, b, h3, c, d⟩
theorem row_app_wp {sT eT : TypeId} {z bytes : Nat} (hE : Elem sT eT z bytes) (hz : 0 < z) (hby : bytes ≤ 1000) {o : Oper} {a : Act} {K : Act → World → Prop} {Q : Exit → Act → World → Prop} {w W : World} (s x : Operand)
    (ho : o.op = .call { callee := .builtin .append, args := #[s, x], argTypes := #[sT, sT] }) (n : Nat) (xs news : List Value) (hnl : news.length = z) (one : ∀ u ∈ news, u.oneCell' = true) (v : Value) (hs : a.eval s = v) (hown : w.ownsRow 0 eT z v n xs)
    (nb : Nat) (hx : a.eval x = .slice (some ⟨nb, 0, none⟩) 1 1) (hnb : nb = w.heap.size) (hlen : n ≤ 1000000) (hW : W = w.alloc (.cells news.toArray eT) ∨ W = (w.alloc (.cells news.toArray eT)).drew ∨ W = w.drew.alloc (.cells news.toArray eT))
    (h : ∀ g cap w', w'.ownsRow 0 eT z (.slice (some ⟨g, 0, none⟩) (n + 1) cap) (n + 1) (xs ++ news) → w.grownBy w' v.ownBlock → (v.ownBlock = some g ∨ w.heap.size ≤ g) → K (a.put o.dst (.slice (some ⟨g, 0, none⟩) (n + 1) cap)) w') : o.wp Tryz.prog a W K Q := by
  subst hnb
  obtain ⟨hu, i0, z0, hi, hz0, hzc, hz1, hz2⟩ := hE
  have A : Below w.heap.size w W := by
    rcases hW with rfl | rfl | rfl
    · exact (Below.refl w.heap.size w).alloc (Nat.le_refl _) _
    · exact ((Below.refl w.heap.size w).alloc (Nat.le_refl _) _).drew
    · exact (Below.refl w.heap.size w).drew.alloc (Nat.le_refl _) _
  have hsz : W.heap.size = w.heap.size + 1 := by rcases hW with rfl | rfl | rfl <;> simp
  have hnew : W.heap[w.heap.size]? = some (.cells news.toArray eT (0, 0)) := by
    rcases hW with rfl | rfl | rfl
    · exact heap_alloc_new w _
    · exact heap_alloc_new w _
    · exact heap_alloc_new w.drew _
  have hb : (n + 1) * bytes ≤ 140737488355328 := by
    have h1 : (n + 1) * bytes ≤ 1000001 * 1000 := Nat.mul_le_mul (by omega) hby
    omega
  refine wp_append_lies _ s x sT ho 0 eT i0 z0 z bytes hu hi hz0 hz1 hz2 hzc hz v n xs hs (row_keep hown (fun g hg => by
    obtain ⟨cur, hc⟩ := row_lt hown hg
    exact A.block g (blk_lt hc))) ⟨w.heap.size, 0, none⟩ 1 1 news hx (by omega) (World.news_of_block hnew) one (by decide) (by unfold maxLen; omega) hb (Nat.zero_le _) (w.heap.size + 1) hsz ?_
  intro g cap w' hown' hgrow hat hlt
  refine h g cap w' hown' ?_ ?_
  · refine ⟨hgrow.os.trans A.os, hgrow.tape.trans A.tape, hgrow.output.trans A.output, Nat.le_trans A.size hgrow.size, fun k hk hne => ?_⟩
    rw [hgrow.block k (by omega) hne, A.block k hk]
  · rcases hat with h1 | h1
    · exact .inl h1
    · exact .inr (by omega)
/-- in a plain region -/
theorem row_app {sT eT : TypeId} {z bytes : Nat} (hE : Elem sT eT z bytes) (hz : 0 < z) (hby : bytes ≤ 1000) {ops : Array Oper} {rest : List Oper} {o : Oper} {a : Act} {Q : Exit → Act → World → Prop} {w : World} (hgd : o.guard = none) (s x : Operand)
    (ho : o.op = .call { callee := .builtin .append, args := #[s, x], argTypes := #[sT, sT] }) (n : Nat) (xs news : List Value) (hnl : news.length = z) (one : ∀ u ∈ news, u.oneCell' = true) (v : Value) (hs : a.eval s = v) (hown : w.ownsRow 0 eT z v n xs)
    (nb : Nat) (hx : a.eval x = .slice (some ⟨nb, 0, none⟩) 1 1) (hnb : nb = w.heap.size) (hlen : n ≤ 1000000)
    (h : ∀ g cap w', w'.ownsRow 0 eT z (.slice (some ⟨g, 0, none⟩) (n + 1) cap) (n + 1) (xs ++ news) → w.grownBy w' v.ownBlock → (v.ownBlock = some g ∨ w.heap.size ≤ g) → wpList Tryz.prog ops Q rest (a.put o.dst (.slice (some ⟨g, 0, none⟩) (n + 1) cap)) w') :
    wpList Tryz.prog ops Q (o :: rest) a (w.alloc (.cells news.toArray eT)) :=
  wpList_plain hgd fun _ hK' => row_app_wp hE hz hby s x ho n xs news hnl one v hs hown nb hx hnb hlen (.inl rfl) fun g cap w' h1 h2 h3 => hK' _ _ (h g cap w' h1 h2 h3)
/-- as a step of a region that draws -/
theorem row_app_step {sT eT : TypeId} {z bytes : Nat} (hE : Elem sT eT z bytes) (hz : 0 < z) (hby : bytes ≤ 1000) {ops : Array Oper} {o : Oper} {a : Act} {K : Act → World → Prop} {Q : Exit → Act → World → Prop} {E : Prop} {w W : World} (hgd : o.guard = none) (s x : Operand)
    (ho : o.op = .call { callee := .builtin .append, args := #[s, x], argTypes := #[sT, sT] }) (n : Nat) (xs news : List Value) (hnl : news.length = z) (one : ∀ u ∈ news, u.oneCell' = true) (v : Value) (hs : a.eval s = v) (hown : w.ownsRow 0 eT z v n xs)
    (nb : Nat) (hx : a.eval x = .slice (some ⟨nb, 0, none⟩) 1 1) (hnb : nb = w.heap.size) (hlen : n ≤ 1000000) (hW : W = w.alloc (.cells news.toArray eT) ∨ W = (w.alloc (.cells news.toArray eT)).drew ∨ W = w.drew.alloc (.cells news.toArray eT))
    (h : ∀ g cap w', w'.ownsRow 0 eT z (.slice (some ⟨g, 0, none⟩) (n + 1) cap) (n + 1) (xs ++ news) → w.grownBy w' v.ownBlock → (v.ownBlock = some g ∨ w.heap.size ≤ g) → K (a.put o.dst (.slice (some ⟨g, 0, none⟩) (n + 1) cap)) w') :
    if Region.wanted o (yielded ops a.tmps) = true then Oper.wp Tryz.prog o a W K Q else E := by
  rw [if_pos (by simp [Region.wanted, hgd])]
  exact row_app_wp hE hz hby s x ho n xs news hnl one v hs hown nb hx hnb hlen hW h

end Go.Proofs.YtimhgbcanmgajaaGreat

namespace Go.Proofs.YtimhgbcanmgajaaGreat
set_option linter.unusedSimpArgs false
open Go.RowKit

theorem elOne : Elem 252 264 1 8 := elem_of (z0 := .pointer none) (by kernel_rfl) (by kernel_rfl) rfl
set_option maxHeartbeats 1000000 in
theorem put_full {t m M n sg : Nat} {v : Value} {xs : List Value} (w : World) (hb : Blk t 254 #[.int .i64 (M : Int), .map (some m), v] w) (hr : w.ownsRow 0 264 1 v n xs) (hn : M ≤ n) :
    Calls Tryz.prog 162 #[.pointer (some ⟨t, 0, none⟩), .pointer (some ⟨sg, 0, none⟩)] w fun e w' => e = .returned (.int .i64 0) ∧ Below w.heap.size w w' := by
  obtain ⟨ao, cap, rfl⟩ := row_shape hr
  have c0 : w.cell? ⟨t, 0, none⟩ = some (.int .i64 (M : Int)) := by rw [blk_cell hb]; rfl
  have c2 : w.cell? ⟨t, 2, none⟩ = some (.slice ao n cap) := by rw [blk_cell hb]; rfl
  have d1 : decide ((M : Int) ≤ (n : Int)) = true := decide_eq_true (by omega)
  clear hb hr
  go_enter Tryz.func162, Tryz.ntmps162
  go_wp2_with fail
  refine wp_region_held_drew (S := fun a => a.cell? ⟨t, 0, none⟩ = some (.int .i64 (M : Int)) ∧ a.cell? ⟨t, 2, none⟩ = some (.slice ao n cap)) (by kernel_rfl) ⟨c0, c2⟩ (fun hHeld => ?_)
  refine tkk 0 ?_
  refine tkk 1 ?_
  refine tkk 2 ?_
  refine tkk 3 ?_
  refine tkk 4 ?_
  refine tkk 5 ?_
  refine tkk 6 ?_
  refine tkk 7 ?_
  refine tkk 8 ?_
  refine tkk 9 ?_
  refine wpAnyH_done (by kernel_rfl) ?_ _
  go_wp2_with fail
  go_ret
  exact ⟨rfl, (Below.refl _ _).drew⟩
set_option maxHeartbeats 1000000 in
theorem put_new {t m M n sg : Nat} {v : Value} {xs : List Value} (w : World) (hb : Blk t 254 #[.int .i64 (M : Int), .map (some m), v] w) (hr : w.ownsRow 0 264 1 v n xs) (hn : n < M) (hM : M ≤ 150) :
    Calls Tryz.prog 162 #[.pointer (some ⟨t, 0, none⟩), .pointer (some ⟨sg, 0, none⟩)] w fun e w' => e = .returned (.int .i64 ((n : Int) + 1)) ∧ ∃ v', Blk t 254 #[.int .i64 (M : Int), .map (some m), v'] w' ∧ w'.ownsRow 0 264 1 v' (n + 1) (xs ++ [.pointer (some ⟨sg, 0, none⟩)]) ∧
      Keep (fun b => b = t ∨ v.ownBlock = some b) w w' ∧ ∀ g, v'.ownBlock = some g → v.ownBlock = some g ∨ w.heap.size ≤ g := by
  have hrt : ∀ b, v.ownBlock = some b → b ≠ t := fun b hv e => by
    obtain ⟨cur, hc⟩ := row_lt hr hv
    exact absurd (blk_type (e ▸ hc) hb) (by decide)
  obtain ⟨ao, cap, rfl⟩ := row_shape hr
  have c0 : w.cell? ⟨t, 0, none⟩ = some (.int .i64 (M : Int)) := by rw [blk_cell hb]; rfl
  have c2 : w.cell? ⟨t, 2, none⟩ = some (.slice ao n cap) := by rw [blk_cell hb]; rfl
  have htl := blk_lt hb
  have d1 : decide ((M : Int) ≤ (n : Int)) = false := decide_eq_false (by omega)
  have HB := hid hb
  have HR := hid hr
  have HT := hid hrt
  clear hb hr hrt
  go_enter Tryz.func162, Tryz.ntmps162
  go_wp2_with fail
  refine wp_region_held_drew (S := fun a => a.cell? ⟨t, 0, none⟩ = some (.int .i64 (M : Int)) ∧ a.cell? ⟨t, 2, none⟩ = some (.slice ao n cap)) (by kernel_rfl) ⟨c0, c2⟩ (fun hHeld => ?_)
  refine tkk 0 ?_
  refine tkk 1 ?_
  refine tkk 2 ?_
  refine tkk 3 ?_
  refine tkk 4 ?_
  refine tkk 5 ?_
  refine tkk 6 ?_
  refine tkk 7 ?_
  refine tkk 8 ?_
  refine tkk 9 ?_
  refine wpAnyH_done (by kernel_rfl) ?_ _
  have HB1 := hid (blk_on HB.out (Below.refl _ w).drew)
  have HR1 := hid (row_keep (c := w.drew) HR.out (fun _ _ => rfl))
  have HK1 := hid (Keep.drew (fun b => b = t ∨ (Value.slice ao n cap).ownBlock = some b) w)
  have c21 : w.drew.cell? ⟨t, 2, none⟩ = some (.slice ao n cap) := c2
  have HS1 := hid (show w.drew.heap.size = w.heap.size from rfl)
  have ht1 : t < w.drew.heap.size := htl
  generalize w.drew = w1 at *
  have HAPP := hid (show ∀ g cp w4, w4.ownsRow 0 264 1 (.slice (some ⟨g, 0, none⟩) (n + 1) cp) (n + 1) (xs ++ [.pointer (some ⟨sg, 0, none⟩)]) → w1.grownBy w4 (Value.slice ao n cap).ownBlock → ((Value.slice ao n cap).ownBlock = some g ∨ w1.heap.size ≤ g) →
      Blk t 254 #[.int .i64 (M : Int), .map (some m), .slice ao n cap] w4 ∧ Blk t 254 #[.int .i64 (M : Int), .map (some m), .slice (some ⟨g, 0, none⟩) (n + 1) cp] (w4.setCell ⟨t, 2, none⟩ (.slice (some ⟨g, 0, none⟩) (n + 1) cp)) ∧
      (w4.setCell ⟨t, 2, none⟩ (.slice (some ⟨g, 0, none⟩) (n + 1) cp)).ownsRow 0 264 1 (.slice (some ⟨g, 0, none⟩) (n + 1) cp) (n + 1) (xs ++ [.pointer (some ⟨sg, 0, none⟩)]) ∧ Keep (fun b => b = t ∨ (Value.slice ao n cap).ownBlock = some b) w (w4.setCell ⟨t, 2, none⟩ (.slice (some ⟨g, 0, none⟩) (n + 1) cp)) from by
    intro g cp w4 h1 h2 h3
    have hb4 : Blk t 254 #[.int .i64 (M : Int), .map (some m), .slice ao n cap] w4 := (h2.block t ht1 (fun e => HT.out t e.symm rfl)).trans HB1.out
    refine ⟨hb4, blk_set hb4 2 _, ?_, (HK1.out.trans (Keep.grown h2 (fun k hk => .inr hk)) (fun _ _ e => e)).trans (Keep.set (S := fun b => b = t ∨ (Value.slice ao n cap).ownBlock = some b) (.inl rfl) w4 2 _) (fun _ _ e => e)⟩
    refine row_keep h1 (fun k hk => ?_)
    simp [Value.ownBlock] at hk
    subst hk
    obtain ⟨cur, hc⟩ := row_lt h1 (g := g) rfl
    refine (Keep.set (S := fun b => b = t) rfl w4 2 _).block g (blk_lt hc) (fun e => ?_)
    rcases h3 with h | h
    · exact HT.out g h e
    · omega)
  clear c0 c2 hHeld
  go_wp2_with (first | (at_builtin; refine row_app elOne (by decide) (by decide) rfl _ _ rfl n xs [.pointer (some ⟨sg, 0, none⟩)] rfl (by intro u hu; simp at hu; subst hu; rfl) (.slice ao n cap) (by rfl) HR1.out w1.heap.size (by rfl) rfl (by omega) ?_; intro g cp w4 hown hgrow hat; have R := hid (HAPP.out _ _ _ hown hgrow hat); have HAT := hid hat; have q1 : w4.cell? ⟨t, 2, none⟩ = some (.slice ao n cap) := (by rw [blk_cell R.out.1]; rfl); have q2 : w4.frozen? ⟨t, 2, none⟩ = false := blk_free R.out.1 2; clear hown hgrow hat) | fail)
  go_ret
  refine ⟨by simp, _, R.out.2.1, R.out.2.2.1, R.out.2.2.2, ?_⟩
  intro g' hg'
  simp [Value.ownBlock] at hg'
  subst hg'
  rcases HAT.out with h | h
  · exact .inl h
  · exact .inr (by have := HS1.out; omega)
set_option maxHeartbeats 1000000 in
/-- a number more in a shape's map, which is made if there is none -/
theorem lead_calls {g c : Nat} {a1 a2 a3 : Value} {nm : Option Nat} {f : Int → Option Int} {x y : Int} (w : World) (hb : Blk g 266 #[a1, a2, a3, .map nm] w) (hm : ∀ k, nm = some k → MapI k f c w) (hn : nm = none → (∀ z, f z = none) ∧ c = 0) (hc : c ≤ 1000) (hx : I64 x) (hy : I64 y) (hf : f x = none) :
    Calls Tryz.prog 177 #[.pointer (some ⟨g, 0, none⟩), .int .i64 x, .int .i64 y] w fun e w' => (∃ u, e = .returned u) ∧ ∃ k, Blk g 266 #[a1, a2, a3, .map (some k)] w' ∧ MapI k (putFI f x y) (c + 1) w' ∧ Keep (fun b => b = g ∨ nm = some b) w w' ∧ (nm = some k ∨ (nm = none ∧ w.heap.size ≤ k)) := by
  have hmk : ∀ w, (Instr.makeMap 251 none).run Tryz.prog w = .ok (.map (some w.heap.size)) (w.alloc (.map #[] 0)) := fun w => by simp [Instr.makeMap]
  have hql : ∀ (r : Option Nat) w, (binOp .eql 251 (.map r) (.map none)).run Tryz.prog w = .ok (.bool r.isNone) w := fun r w => run_eql_map_nil w _ _ _ r underMi
  have q0 : w.cell? ⟨g, 3, none⟩ = some (.map nm) := by rw [blk_cell hb]; rfl
  have q1 : w.frozen? ⟨g, 3, none⟩ = false := blk_free hb 3
  have hgl := blk_lt hb
  cases nm with
  | some k =>
    have HM := hid (hm k rfl)
    have HB := hid hb
    have hne : g ≠ k := fun e => blk_map (e ▸ hb) (hm k rfl)
    clear hm hn hb
    go_enter Tryz.func177, Tryz.ntmps177
    go_wp2_with (first | (at_mapUpdate; refine gi_put underMi rfl _ _ _ rfl k _ _ x y rfl HM.out (by unfold maxLen; omega) rfl hx rfl hy.wf ?_; intro w1 hM1 g1; have HM1 := hid hM1; have HG1 := hid g1; clear hM1 g1) | fail)
    go_end0
    have k1 : Keep (fun b => b = g ∨ some k = some b) w w1 := Keep.grown HG1.out (fun j hj => .inr hj)
    have hM1 := HM1.out
    rw [hf] at hM1
    exact ⟨⟨_, rfl⟩, k, (HG1.out.block g hgl (fun e => hne (Option.some.inj e))).trans HB.out, hM1, by simpa using k1, by simp⟩
  | none =>
    obtain ⟨hn1, rfl⟩ := hn rfl
    have HB := hid hb
    have b1 := blk_set hb 3 (.map (some w.heap.size))
    have b2 := blk_on b1 ((Below.refl _ (w.setCell ⟨g, 3, none⟩ (.map (some w.heap.size)))).alloc (Nat.le_refl _) (.map #[] 0))
    have hs0 : (w.setCell ⟨g, 3, none⟩ (.map (some w.heap.size))).heap.size = w.heap.size := by simp [World.setCell]
    have hm0 := mapI_ext (mapI_new (w.setCell ⟨g, 3, none⟩ (.map (some w.heap.size)))) (fun z => (hn1 z).symm)
    rw [hs0] at hm0
    have HM := hid hm0
    have HK := hid ((Keep.set (S := fun b => b = g ∨ none = some b) (.inl rfl) w 3 (.map (some w.heap.size))).trans (Keep.alloc (fun b => b = g ∨ none = some b) _ (.map #[] 0)) (fun _ _ e => e))
    have HB2 := hid b2
    have hgl2 := hid (blk_lt b2)
    have q2 : ((w.setCell ⟨g, 3, none⟩ (.map (some w.heap.size))).alloc (.map #[] 0)).cell? ⟨g, 3, none⟩ = some (.map (some w.heap.size)) := by rw [blk_cell b2]; rfl
    clear hs0 hm0
    clear hm hn hb b1 b2
    go_enter Tryz.func177, Tryz.ntmps177
    go_wp2_with (first | (at_mapUpdate; refine gi_put underMi rfl _ _ _ rfl w.heap.size _ _ x y rfl HM.out (by unfold maxLen; omega) rfl hx rfl hy.wf ?_; intro w1 hM1 g1; have HM1 := hid hM1; have HG1 := hid g1; clear hM1 g1) | fail)
    go_end0
    have k1 : Keep (fun b => b = g ∨ none = some b) w w1 := HK.out.trans (T := fun b => b = w.heap.size) (Keep.grown HG1.out (fun j hj => (Option.some.inj hj).symm)) (fun i hi e => by omega)
    have hM1 := HM1.out
    rw [hf] at hM1
    refine ⟨⟨_, rfl⟩, w.heap.size, (HG1.out.block g hgl2.out (fun e => ?_)).trans HB2.out, hM1, by simpa using k1, by simp⟩
    have := Option.some.inj e
    omega

end Go.Proofs.YtimhgbcanmgajaaGreat

namespace Go.Proofs.YtimhgbcanmgajaaGreat
set_option linter.unusedSimpArgs false
set_option maxRecDepth 100000
open Go.RowKit

theorem set_calls {p m : Nat} {v : Value} {L : Pls} (w : World) (h : PlAt p v m L w) (s : ByteArray) (hs : s.size ≤ 1000000) (x : Vl) (hf : L.length ≤ 1000000) :
    Calls Tryz.prog 153 #[.pointer (some ⟨p, 0, none⟩), .string s, vlV x] w fun e w' => e = .returned (.bool (!hasL (live L) s)) ∧
      ∃ v' L', PlAt p v' m L' w' ∧ live L' = setL (live L) s x ∧ L'.length ≤ L.length + 1 ∧ Keep (FtP p v m) w w' ∧ ∀ b, FtP p v' m b → FtP p v m b ∨ w.heap.size ≤ b := by
  cases hp : posL L s with
  | some i =>
    rw [show hasL (live L) s = true from by rw [← posL_has, hp]; rfl]
    refine (set_has w h s hs x hp).mono ?_
    rintro e w' ⟨rfl, h1, h2⟩
    exact ⟨rfl, v, _, h1, (posL_set x hp).1, by rw [List.length_set]; omega, h2, fun b hb => .inl hb⟩
  | none =>
    have hh : hasL (live L) s = false := by rw [← posL_has, hp]; rfl
    rw [hh]
    refine (set_new w h s hs x hp hf).mono ?_
    rintro e w' ⟨rfl, v', h1, h2, h3⟩
    exact ⟨rfl, v', _, h1, by rw [live_snoc, setL_new x hh], by simp, h2, h3⟩
theorem blk_far {p m d : Nat} {v : Value} {L : Pls} {cs : Array Value} {T : TypeId} {w : World} (h1 : Blk d T cs w) (h : PlAt p v m L w) (t1 : T ≠ 269) (t2 : T ≠ 272) : ¬ FtP p v m d := by
  have hd : w.heap[d]? = _ := h1
  rintro (e | e | e)
  · have hb : w.heap[p]? = _ := h.blk
    rw [← e, hd] at hb
    injection hb with hb; injection hb with _ hb
    exact t1 hb
  · obtain ⟨es, clock, hm⟩ := mapN_block h.map
    rw [← e, hd] at hm; cases hm
  · obtain ⟨cur, hc⟩ := row_lt h.row e
    have hb : w.heap[d]? = _ := hc
    rw [hd] at hb
    injection hb with hb; injection hb with _ hb
    exact t2 hb

set_option maxHeartbeats 1000000 in
theorem dset_calls {S : Nat → Prop} {d n : Nat} {l : List Ent} (w : World) (h : DcS S d n l w) (hn : n ≤ 1000000) (s : ByteArray) (hs : s.size ≤ 1000000) (x : Vl) :
    Calls Tryz.prog 117 #[.pointer (some ⟨d, 0, none⟩), .string s, vlV x] w fun e w' => e = .returned (.bool (!hasL l s)) ∧
      DcS (Up S w) d (n + 1) (setL l s x) w' ∧ Keep S w w' := by
  have A := (Below.refl w.heap.size w).alloc (Nat.le_refl _) (Obj.cells #[.int .i64 x.1, .int .i64 x.2.1, .string x.2.2] 37)
  have HD := hid ((h.on A).on ((Below.refl _ _).drew))
  obtain ⟨p, v, m, L, h1, h2, rfl, h4, h5, h6⟩ := h
  have c0 : w.cell? ⟨d, 0, none⟩ = some (.pointer (some ⟨p, 0, none⟩)) := by rw [blk_cell h1]; rfl
  have hd := blk_lt h1
  have HF := hid (blk_far h1 h2 (by decide) (by decide))
  have HB := hid h1
  have HP := hid ((h2.on A).drew)
  have HA := hid A.drew
  have H2 := hid h2
  have HS := hid (set_calls _ HP.out s hs x (by omega))
  clear h1 h2 A
  unfold vlV at HS ⊢
  go_enter Tryz.func117, Tryz.ntmps117
  go_wp2_with fail
  refine wp_region_held_drew (S := fun a => a.cell? ⟨d, 0, none⟩ = some (.pointer (some ⟨p, 0, none⟩)) ∧ a.cell? ⟨w.heap.size, 0, none⟩ = some (.int .i64 x.1) ∧ a.cell? ⟨w.heap.size, 1, none⟩ = some (.int .i64 x.2.1) ∧ a.cell? ⟨w.heap.size, 2, none⟩ = some (.string x.2.2)) (by kernel_rfl) ?_ (fun hHeld => ?_)
  · refine ⟨?_, ?_, ?_, ?_⟩ <;> go_simp
  refine tkk 0 ?_
  refine rdy 1 (fun K hK => ?_)
  go_simp
  refine (made_calls _ HD.out).mono ?_
  rintro e1 w1 ⟨rfl, rfl⟩
  go_simp
  refine hK.out _ _ hHeld (fun _ => ?_)
  clear hK K
  try simp only [Act.put, List.setIfInBounds_toArray, List.set_cons_zero, List.set_cons_succ, List.getElem_toArray, List.getElem_cons_succ, List.getElem_cons_zero]
  refine tkk 2 ?_
  refine tkk 3 ?_
  refine tkk 4 ?_
  refine tkk 5 ?_
  refine tkk 6 ?_
  refine tkk 7 ?_
  refine tkk 8 ?_
  refine rdy 9 (fun K hK => ?_)
  go_simp
  refine HS.out.mono ?_
  rintro e2 w2 ⟨rfl, v', L', g1, g2, g3, g4, g5⟩
  have hsz := HA.out.size
  have KK : Keep S w w2 := (Keep.of HA.out).trans (g4.mono (fun b _ hb => h6 b hb)) (fun _ _ h => h)
  have bx : Blk w.heap.size 37 #[.int .i64 x.1, .int .i64 x.2.1, .string x.2.2] w2 := by
    refine blk_keep (blk_new w 37 #[.int .i64 x.1, .int .i64 x.2.1, .string x.2.2]) ?_ ?_ (S := FtP p v m)
    · exact (Keep.drew _ _).trans g4 (fun _ _ h => h)
    · intro hb
      have := H2.out.lt hb
      omega
  have bd : Blk d 244 #[.pointer (some ⟨p, 0, none⟩)] w2 := blk_keep (blk_on HB.out HA.out) g4 HF.out
  refine hK.out _ _ ⟨by rw [blk_cell bd]; rfl, by rw [blk_cell bx]; rfl, by rw [blk_cell bx]; rfl, by rw [blk_cell bx]; rfl⟩ (fun _ => ?_)
  have R : DcS (Up S w) d (n + 1) (setL (live L) s x) w2 := ⟨p, v', m, L', bd, g1, g2, by omega, .inl h5, fun b hb => by
    rcases g5 b hb with h | h
    · exact .inl (h6 b h)
    · exact .inr (by omega)⟩
  have RR := hid R
  have RK := hid KK
  clear hK K g1 g2 g4 g5 bx bd R KK
  try simp only [Act.put, List.setIfInBounds_toArray, List.set_cons_zero, List.set_cons_succ, List.getElem_toArray, List.getElem_cons_succ, List.getElem_cons_zero]
  refine tkk 10 ?_
  refine tkk 11 ?_
  refine wpAnyH_done (by kernel_rfl) ?_ _
  go_wp2_with fail
  go_ret
  exact ⟨rfl, RR.out, RK.out⟩

end Go.Proofs.YtimhgbcanmgajaaGreat
