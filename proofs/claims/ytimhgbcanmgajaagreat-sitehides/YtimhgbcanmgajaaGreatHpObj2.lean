/- Objects of slots: a value changed, a slot more, as a dictionary. -/
import Derived.Test.YtimhgbcanmgajaaGreatJoint2
import Derived.Test.YtimhgbcanmgajaaGreatJoint13
import Derived.Test.YtimhgbcanmgajaaGreatJoint9
namespace Go.Proofs.YtimhgbcanmgajaaGreat
set_option linter.unusedSimpArgs false
set_option maxRecDepth 100000
open Go.RowKit

set_option maxHeartbeats 1000000 in
theorem schange_calls {H : He} {c n f q : Nat} {col : Nat → Nat} {sh : Int} {l : List Ent} {v : Value} (w : World) (C : Cls H c n f col w) (h : SlAt c sh l q v w) (s : ByteArray) (hs : s.size ≤ 1000000) (x : Vl) :
    Calls Tryz.prog 198 #[.pointer (some ⟨q, 0, none⟩), .string s, vlV x] w fun e w' => e = .returned (.bool (slotL l (slotN H.N H.L sh s)).isSome) ∧ SlAt c sh (putL l (slotN H.N H.L sh s) x) q v w' ∧ Keep (FtL q v) w w' := by
  obtain ⟨c0, c1, c2, hq⟩ := h.cells
  have hqn : q ≠ w.heap.size := by omega
  have A := ((Below.refl w.heap.size w).alloc (Nat.le_refl _) (Obj.cells #[.int .i64 x.1, .int .i64 x.2.1, .string x.2.2] 37)).drew
  have HA := hid A
  have HH := hid (h.on A)
  have HSl := hid (cslot_calls _ (C.on A) sh s hs)
  have hvb : Hid (∀ b, FtL q v b → b < w.heap.size) := hid (fun b hb => h.lt hb)
  clear h C A
  generalize slotN H.N H.L sh s = i at *
  unfold vlV
  go_enter Tryz.func198, Tryz.ntmps198
  go_wp2_with fail
  refine wp_region_held_drew (S := fun a => a.cell? ⟨q, 0, none⟩ = some (.pointer (some ⟨c, 0, none⟩)) ∧ a.cell? ⟨q, 1, none⟩ = some (.int .i64 sh) ∧ a.cell? ⟨w.heap.size, 0, none⟩ = some (.int .i64 x.1) ∧ a.cell? ⟨w.heap.size, 1, none⟩ = some (.int .i64 x.2.1) ∧ a.cell? ⟨w.heap.size, 2, none⟩ = some (.string x.2.2)) (by kernel_rfl) ?_ (fun hHeld => ?_)
  · (refine ⟨?_, ?_, ?_, ?_, ?_⟩ <;> go_simp)
  refine tkk 0 ?_
  refine tkk 1 ?_
  refine tkk 2 ?_
  refine tkk 3 ?_
  refine tkk 4 ?_
  refine tkk 5 ?_
  refine tkk 6 ?_
  refine tkk 7 ?_
  refine tkk 8 ?_
  refine tkk 9 ?_
  refine tkk 11 ?_
  refine rdy 10 (fun K hK => ?_)
  go_simp
  refine HSl.out.mono ?_
  rintro e1 w1 ⟨rfl, b1⟩
  have HV := hid (sput_calls w1 (HH.out.on b1) i x)
  have B1 := hid (below_on HA.out b1)
  obtain ⟨d0, d1, _, dq⟩ := (HH.out.on b1).cells
  have wl : w.heap.size < ((w.alloc (Obj.cells #[.int .i64 x.1, .int .i64 x.2.1, .string x.2.2] 37)).drew).heap.size := by simp
  have x0 := hcell_on (c := w1) (a := (w.alloc (Obj.cells #[.int .i64 x.1, .int .i64 x.2.1, .string x.2.2] 37)).drew) (g := w.heap.size) (i := 0) (v := .int .i64 x.1) (by simp) wl b1
  have x1 := hcell_on (c := w1) (a := (w.alloc (Obj.cells #[.int .i64 x.1, .int .i64 x.2.1, .string x.2.2] 37)).drew) (g := w.heap.size) (i := 1) (v := .int .i64 x.2.1) (by simp) wl b1
  have x2 := hcell_on (c := w1) (a := (w.alloc (Obj.cells #[.int .i64 x.1, .int .i64 x.2.1, .string x.2.2] 37)).drew) (g := w.heap.size) (i := 2) (v := .string x.2.2) (by simp) wl b1
  have wl1 := Nat.lt_of_lt_of_le wl b1.size
  unfold vlV at HV
  clear b1 HSl HA wl
  go_simp
  refine hK.out _ _ ?_ (fun _ => ?_)
  · (refine ⟨?_, ?_, ?_, ?_, ?_⟩ <;> (first | assumption | go_simp))
  clear hK K
  refine rdy 12 (fun K hK => ?_)
  go_simp
  refine HV.out.mono ?_
  rintro e2 w2 ⟨rfl, h2, k2⟩
  have R := hid (show SlAt c sh (putL l i x) q v w2 ∧ Keep (FtL q v) w w2 from ⟨h2, (Keep.of B1.out).trans k2 (fun _ _ h => h)⟩)
  have nw : ¬ FtL q v w.heap.size := fun e => Nat.lt_irrefl _ (hvb.out _ e)
  obtain ⟨p0, p1, _, _⟩ := h2.cells
  have x0 := hcell_keep x0 wl1 k2 nw
  have x1 := hcell_keep x1 wl1 k2 nw
  have x2 := hcell_keep x2 wl1 k2 nw
  clear h2 k2 HV nw HH d0 d1
  go_simp
  refine hK.out _ _ ?_ (fun _ => ?_)
  · (refine ⟨?_, ?_, ?_, ?_, ?_⟩ <;> (first | assumption | go_simp))
  clear hK K
  refine tkk 13 ?_
  refine wpAnyH_done (by kernel_rfl) ?_ _
  go_wp2_with fail
  go_ret
  exact ⟨rfl, R.out⟩

theorem cell_blk {g i : Nat} {v : Value} {a c : World} (e : c.heap[g]? = a.heap[g]?) (h : a.cell? ⟨g, i, none⟩ = some v) : c.cell? ⟨g, i, none⟩ = some v := by
  unfold World.cell? at h ⊢
  simp only [e]
  exact h
theorem elVl : Elem 125 37 3 32 := elem_of (z0 := .agg #[.int .i64 0, .int .i64 0, .string ⟨#[]⟩]) (by kernel_rfl) (by kernel_rfl) rfl
/-- a slot more, in memory -/
theorem SlAt.grow {c q g cap : Nat} {sh to : Int} {l : List Ent} {v : Value} {s : ByteArray} {x : Vl} {w w1 w3 : World} (h : SlAt c sh l q v w) (h1 : w1 = (w.setCell ⟨q, 1, none⟩ (.int .i64 to)).alloc (Obj.cells #[.int .i64 x.1, .int .i64 x.2.1, .string x.2.2] 37))
    (hown : w3.ownsRow 0 37 3 (.slice (some ⟨g, 0, none⟩) (l.length + 1) cap) (l.length + 1) (valsC l ++ valC x)) (hg : w1.grownBy w3 v.ownBlock) (hat : v.ownBlock = some g ∨ w1.heap.size ≤ g) :
    Blk q 164 #[.pointer (some ⟨c, 0, none⟩), .int .i64 to, v] w3 ∧ SlAt c to (l ++ [(s, x)]) q (.slice (some ⟨g, 0, none⟩) (l.length + 1) cap) (w3.setCell ⟨q, 2, none⟩ (.slice (some ⟨g, 0, none⟩) (l.length + 1) cap)) ∧
      Keep (FtL q v) w (w3.setCell ⟨q, 2, none⟩ (.slice (some ⟨g, 0, none⟩) (l.length + 1) cap)) ∧ ∀ b, FtL q (.slice (some ⟨g, 0, none⟩) (l.length + 1) cap) b → FtL q v b ∨ w.heap.size ≤ b := by
  have hq := blk_lt h.blk
  have k1 : Keep (fun b => b = q) w w1 := by
    rw [h1]
    exact (Keep.set (S := fun b => b = q) rfl w 1 _).trans (Keep.alloc _ _ _) (fun _ _ e => e)
  have b1 : Blk q 164 #[.pointer (some ⟨c, 0, none⟩), .int .i64 to, v] w1 := by
    rw [h1]
    exact blk_on (blk_set h.blk 1 (.int .i64 to)) ((Below.refl _ _).alloc (Nat.le_refl _) _)
  have k3 : Keep (FtL q v) w w3 := (k1.mono (fun b _ e => .inl e)).trans (Keep.grown (S := FtL q v) hg (fun k hk => .inr hk)) (fun _ _ e => e)
  have b3 : Blk q 164 #[.pointer (some ⟨c, 0, none⟩), .int .i64 to, v] w3 := (hg.block q (blk_lt b1) (fun e => h.ne e.symm rfl)).trans b1
  have hgq : g ≠ q := by
    rcases hat with h' | h'
    · exact h.ne h'
    · have := k1.size
      omega
  have K := Keep.set (S := fun b => b = q) rfl w3 2 (.slice (some ⟨g, 0, none⟩) (l.length + 1) cap)
  refine ⟨b3, ⟨blk_set b3 2 _, ?_⟩, k3.trans K (fun b _ e => .inl e), ?_⟩
  · rw [List.length_append, valsC_append]
    exact row_keep hown (fun k hk => by
      simp [Value.ownBlock] at hk
      subst hk
      obtain ⟨cur, hc⟩ := row_lt hown (g := g) rfl
      exact K.block g (blk_lt hc) hgq)
  · rintro b (rfl | hb)
    · exact .inl (.inl rfl)
    · simp [Value.ownBlock] at hb
      subst hb
      rcases hat with h' | h'
      · exact .inl (.inr h')
      · exact .inr (Nat.le_trans k1.size h')
set_option maxHeartbeats 2000000 in
theorem sgrown_calls {c q : Nat} {sh : Int} {l : List Ent} {v : Value} (w : World) (h : SlAt c sh l q v w) (to : Int) (s : ByteArray) (x : Vl) (hl : l.length ≤ 1000000) :
    Calls Tryz.prog 115 #[.pointer (some ⟨q, 0, none⟩), .int .i64 to, vlV x] w fun e w' => e = .returned (.iface 161 (.pointer (some ⟨q, 0, none⟩))) ∧ ∃ v', SlAt c to (l ++ [(s, x)]) q v' w' ∧ Keep (FtL q v) w w' ∧ ∀ b, FtL q v' b → FtL q v b ∨ w.heap.size ≤ b := by
  obtain ⟨c0, c1, c2, hq⟩ := h.cells
  have hqn : q ≠ w.heap.size := by omega
  have fq1 := blk_free h.blk 1
  have fq2 := blk_free h.blk 2
  have HH := hid h
  have HG := hid (fun g cap w3 h1 h2 h3 => h.grow (w1 := (w.setCell ⟨q, 1, none⟩ (.int .i64 to)).alloc (Obj.cells #[.int .i64 x.1, .int .i64 x.2.1, .string x.2.2] 37)) (w3 := w3) (g := g) (cap := cap) (to := to) (s := s) (x := x) rfl h1 h2 h3)
  have RW := hid (row_keep (c := (w.setCell ⟨q, 1, none⟩ (.int .i64 to)).alloc (Obj.cells #[.int .i64 x.1, .int .i64 x.2.1, .string x.2.2] 37)) h.row (fun g hg => by
    have k1 : Keep (fun b => b = q) w ((w.setCell ⟨q, 1, none⟩ (.int .i64 to)).alloc (Obj.cells #[.int .i64 x.1, .int .i64 x.2.1, .string x.2.2] 37)) := (Keep.set (S := fun b => b = q) rfl w 1 _).trans (Keep.alloc _ _ _) (fun _ _ e => e)
    exact k1.block g (h.lt (.inr hg)) (h.ne hg)))
  obtain ⟨ao, cap, rfl⟩ := row_shape h.row
  clear h
  unfold vlV
  go_enter Tryz.func115, Tryz.ntmps115
  go_wp2_with fail
  refine wp_region_held_drew (S := fun a => a.cell? ⟨w.heap.size, 0, none⟩ = some (.int .i64 x.1) ∧ a.cell? ⟨w.heap.size, 1, none⟩ = some (.int .i64 x.2.1) ∧ a.cell? ⟨w.heap.size, 2, none⟩ = some (.string x.2.2)) (by kernel_rfl) ?_ (fun hHeld => ?_)
  · (refine ⟨?_, ?_, ?_⟩ <;> go_simp)
  refine tkk 0 ?_
  refine tkk 1 ?_
  refine tkk 2 ?_
  refine tkk 3 ?_
  refine tkk 5 ?_
  refine wpAnyH_ready (rs := [4, 6]) (by kernel_rfl) (by simp) ?_
  refine AllReadyH.cons rfl (fun K hK => ?_) (AllReadyH.cons rfl (fun K hK => ?_) AllReadyH.nil)
  go_simp
  refine hK.out _ _ ?_ (fun _ => ?_)
  · (refine ⟨?_, ?_, ?_⟩ <;> (first | assumption | go_simp))
  clear hK K
  refine rdy 6 (fun K hK => ?_)
  go_simp
  refine hK.out _ _ ?_ (fun _ => ?_)
  · (refine ⟨?_, ?_, ?_⟩ <;> (first | assumption | go_simp))
  clear hK K
  rotate_left 1
  go_simp
  refine hK.out _ _ ?_ (fun _ => ?_)
  · (refine ⟨?_, ?_, ?_⟩ <;> (first | assumption | go_simp))
  clear hK K
  refine rdy 4 (fun K hK => ?_)
  go_simp
  refine hK.out _ _ ?_ (fun _ => ?_)
  · (refine ⟨?_, ?_, ?_⟩ <;> (first | assumption | go_simp))
  clear hK K
  rotate_left 1
  all_goals
    refine rdy 7 (fun K hK => ?_)
    refine row_app_step elVl (by decide) (by decide) rfl _ _ rfl l.length (valsC l) (valC x) rfl (valC_one x) (.slice ao l.length cap) (by rfl) RW.out (w.heap.size + 1) (by rfl) (by simp) hl (.inr (.inr rfl)) ?_
    intro g cp w3 hown hgrow hat
    have E := hid (HG.out g cp w3 hown hgrow hat)
    have eb := hgrow.block w.heap.size (by simp) (fun e => Nat.lt_irrefl _ (HH.out.lt (.inr e.symm)))
    have x0 := cell_blk (a := (w.setCell ⟨q, 1, none⟩ (.int .i64 to)).alloc (Obj.cells #[.int .i64 x.1, .int .i64 x.2.1, .string x.2.2] 37)) (i := 0) (v := .int .i64 x.1) eb (by go_simp)
    have x1 := cell_blk (a := (w.setCell ⟨q, 1, none⟩ (.int .i64 to)).alloc (Obj.cells #[.int .i64 x.1, .int .i64 x.2.1, .string x.2.2] 37)) (i := 1) (v := .int .i64 x.2.1) eb (by go_simp)
    have x2 := cell_blk (a := (w.setCell ⟨q, 1, none⟩ (.int .i64 to)).alloc (Obj.cells #[.int .i64 x.1, .int .i64 x.2.1, .string x.2.2] 37)) (i := 2) (v := .string x.2.2) eb (by go_simp)
    have q1 : w3.cell? ⟨q, 2, none⟩ = some (.slice ao l.length cap) := by rw [blk_cell E.out.1]; rfl
    have q3 : w3.frozen? ⟨q, 2, none⟩ = false := blk_free E.out.1 2
    refine hK.out _ _ ⟨x0, x1, x2⟩ (fun _ => ?_)
    clear hK K hown hgrow hat eb
    simp only [Act.put, List.setIfInBounds_toArray, List.set_cons_zero, List.set_cons_succ, List.getElem_toArray, List.getElem_cons_succ, List.getElem_cons_zero]
    refine tkk 8 ?_
    refine tkk 9 ?_
    refine rdy 10 (fun K hK => ?_)
    go_simp
    refine hK.out _ _ ?_ (fun _ => ?_)
    · (refine ⟨?_, ?_, ?_⟩ <;> (first | assumption | go_simp))
    clear hK K
    refine wpAnyH_done (by kernel_rfl) ?_ _
    go_wp2_with fail
    go_ret
    exact ⟨rfl, _, E.out.2⟩

theorem take_set {l : List Ent} {k : Nat} {s : ByteArray} {u : Vl} (ho : OnceL l) (h : l[k]? = some (s, u)) : setL (l.take k) s u = l.take (k + 1) := by
  have hn : hasL (l.take k) s = false := by
    have h1 := live_no (L := l.map some) (j := k) (e := (s, u)) (by rw [live_some]; exact ho) (by rw [List.getElem?_map, h]; rfl)
    rw [← List.map_take, live_some] at h1
    exact h1
  rw [setL_new u hn, List.take_add_one, h]
  rfl
set_option maxHeartbeats 2000000 in
theorem loose_calls {H : He} {c n f q : Nat} {col : Nat → Nat} {sh : Int} {l : List Ent} {v : Value} (w : World) (C : Cls H c n f col w) (h : SlAt c sh l q v w) (hN : Named H sh l) (ho : OkL l) (hl : l.length ≤ 1000) :
    Calls Tryz.prog 116 #[.pointer (some ⟨q, 0, none⟩)] w fun e w' => ∃ dq, e = .returned (.pointer (some ⟨dq, 0, none⟩)) ∧ DiS (fun b => w.heap.size ≤ b) (protoF H.L sh) l dq l.length w' ∧ Below w.heap.size w w' := by
  obtain ⟨c0, c1, c2, hq⟩ := h.cells
  obtain ⟨ao, cap, rfl⟩ := row_shape h.row
  have HP := hid (sproto_calls w C h)
  have HC := hid C
  have HH := hid h
  have HN := hid hN
  have HO := hid ho
  clear h C hN ho
  generalize protoF H.L sh = pr at *
  go_enter Tryz.func116, Tryz.ntmps116
  go_wp2_with fail
  refine HP.out.mono ?_
  rintro e1 w1 ⟨rfl, b1⟩
  have B1 := hid b1
  clear b1 HP
  go_wp2_with fail
  refine (new_calls w1).mono ?_
  rintro e2 w2 ⟨d, rfl, h2, b2⟩
  have H2 := hid h2
  have B2 := hid (below_in B1.out (Nat.le_refl _) b2)
  have L0 : Hid (DiS (fun b => w.heap.size ≤ b) pr [] w2.heap.size 0 (w2.alloc (Obj.cells #[.int .i64 pr, .pointer (some ⟨d, 0, none⟩)] 203)) ∧ Below w.heap.size w (w2.alloc (Obj.cells #[.int .i64 pr, .pointer (some ⟨d, 0, none⟩)] 203))) := by
    have a := (Below.refl w2.heap.size w2).alloc (Nat.le_refl _) (Obj.cells #[.int .i64 pr, .pointer (some ⟨d, 0, none⟩)] 203)
    have hz := B1.out.size
    exact hid ⟨⟨d, blk_new _ _ _, (h2.mono (T := fun b => w.heap.size ≤ b ∧ b ≠ w2.heap.size) (fun b hb h => ⟨by omega, by omega⟩) (Nat.le_refl _)).on a, B2.out.size⟩, below_in B2.out (Nat.le_refl _) a⟩
  have c2 := hcell_on c2 hq B2.out
  have hq2 : q < w2.heap.size := Nat.lt_of_lt_of_le hq B2.out.size
  clear h2 b2 H2
  go_wp2_with fail
  go_loopw [18] (fun a wr => ∃ k : Nat, k ≤ l.length ∧ a = .int .i64 k ∧ Hid (DiS (fun b => w.heap.size ≤ b) pr (l.take k) w2.heap.size k wr ∧ Below w.heap.size w wr)) (fun a _ => l.length - (intOf a).toNat)
  case atStart => exact ⟨0, Nat.zero_le _, rfl, by rw [List.take_zero]; exact L0⟩
  case round =>
    obtain ⟨k, hk, rfl, hR⟩ := hrel
    by_cases hkl : k < l.length
    · obtain ⟨⟨s, u⟩, hx⟩ : ∃ x, l[k]? = some x := ⟨l[k], List.getElem?_eq_getElem hkl⟩
      obtain ⟨g, cp, hgf, hgl, v0, v1, v2, _⟩ := (HH.out.on hR.out.2).value hx
      injection hgf with hg1 hg2 hg3
      subst hg1 hg3
      have hsz : s.size ≤ 1000000 := HO.out.2 _ (List.mem_of_getElem? hx)
      have HX := hid hx
      have A := (Below.refl wr.heap.size wr).alloc (Nat.le_refl _) (Obj.cells #[.int .i64 u.1, .int .i64 u.2.1, .string u.2.2] 37)
      have BA := below_in hR.out.2 (Nat.le_refl _) A
      have HK := hid (skey_calls _ (HC.out.on BA) (HH.out.on BA) HN.out (k : Int))
      rw [keyL_at hx] at HK
      have HR := hid hR.out
      have HBA := hid BA
      obtain ⟨d', hb, hd, _⟩ := hR.out.1
      have y0 : wr.cell? ⟨w2.heap.size, 1, none⟩ = some (.pointer (some ⟨d', 0, none⟩)) := by rw [blk_cell hb]; rfl
      have hdl := blk_lt hb
      have HD := hid hd
      have HB := hid hb
      have hne : w2.heap.size ≠ wr.heap.size := by omega
      have hwl : wr.heap.size < (wr.alloc (Obj.cells #[.int .i64 u.1, .int .i64 u.2.1, .string u.2.2] 37)).heap.size := by simp
      have z0 : (wr.alloc (Obj.cells #[.int .i64 u.1, .int .i64 u.2.1, .string u.2.2] 37)).cell? ⟨wr.heap.size, 0, none⟩ = some (.int .i64 u.1) := by simp
      have z1 : (wr.alloc (Obj.cells #[.int .i64 u.1, .int .i64 u.2.1, .string u.2.2] 37)).cell? ⟨wr.heap.size, 1, none⟩ = some (.int .i64 u.2.1) := by simp
      have z2 : (wr.alloc (Obj.cells #[.int .i64 u.1, .int .i64 u.2.1, .string u.2.2] 37)).cell? ⟨wr.heap.size, 2, none⟩ = some (.string u.2.2) := by simp
      have HAA := hid A
      clear hx A BA hR hb hd
      go_wp2_with fail
      refine HK.out.mono ?_
      rintro e3 w3 ⟨rfl, b3⟩
      have b4 := b3.drew
      have z0 := hcell_on z0 hwl b3
      have z1 := hcell_on z1 hwl b3
      have z2 := hcell_on z2 hwl b3
      have y0 := hcell_on (hcell_on y0 hdl HAA.out) (Nat.lt_of_lt_of_le hdl HAA.out.size) b3
      have hw3 : wr.heap.size < w3.heap.size := Nat.lt_of_lt_of_le hwl b3.size
      have B4 := hid (below_in HBA.out (Nat.le_refl _) b4)
      have B5 := hid (below_on HAA.out b4)
      have HS := hid (dset_calls w3.drew ((HD.out.mono (T := fun b => (w.heap.size ≤ b ∧ b ≠ w2.heap.size) ∧ b < wr.heap.size) (fun b hb h => ⟨h, hb⟩) (Nat.le_refl _)).on B5.out) (by omega) s hsz u)
      rw [take_set HO.out.1 HX.out] at HS
      unfold vlV at HS
      have hd3 : w2.heap.size < w3.heap.size := by omega
      clear b3 b4 HK HBA
      go_wp2_with fail
      refine wp_region_held_drew (S := fun a => a.cell? ⟨w2.heap.size, 1, none⟩ = some (.pointer (some ⟨d', 0, none⟩)) ∧ a.cell? ⟨wr.heap.size, 0, none⟩ = some (.int .i64 u.1) ∧ a.cell? ⟨wr.heap.size, 1, none⟩ = some (.int .i64 u.2.1) ∧ a.cell? ⟨wr.heap.size, 2, none⟩ = some (.string u.2.2)) (by kernel_rfl) ?_ (fun hHeld => ?_)
      · (refine ⟨?_, ?_, ?_, ?_⟩ <;> go_simp)
      refine tkk 0 ?_
      refine tkk 1 ?_
      refine tkk 2 ?_
      refine tkk 3 ?_
      refine tkk 4 ?_
      refine tkk 5 ?_
      refine rdy 6 (fun K hK => ?_)
      go_simp
      refine HS.out.mono ?_
      rintro e4 w4 ⟨rfl, h4, k4⟩
      have R : Hid (DiS (fun b => w.heap.size ≤ b) pr (l.take (k + 1)) w2.heap.size (k + 1) w4 ∧ Below w.heap.size w w4) := by
        have hz := HR.out.2.size
        have hz2 := B2.out.size
        refine hid ⟨⟨d', blk_keep (blk_on HB.out B5.out) k4 (fun h => h.1.2 rfl), h4.mono (fun b _ h => ?_) (Nat.le_refl _), hz2⟩, B4.out.trans (k4.below (by show w.heap.size ≤ w3.heap.size; omega) (fun b h => h.1.1))⟩
        rcases h with h | h
        · exact h.1
        · exact ⟨by have : w3.heap.size ≤ b := h; omega, by have : w3.heap.size ≤ b := h; omega⟩
      have y0 := hcell_keep (c := w4) (a := w3.drew) y0 hd3 k4 (fun h => h.1.2 rfl)
      have z0 := hcell_keep (c := w4) (a := w3.drew) z0 hw3 k4 (fun h => Nat.lt_irrefl _ h.2)
      have z1 := hcell_keep (c := w4) (a := w3.drew) z1 hw3 k4 (fun h => Nat.lt_irrefl _ h.2)
      have z2 := hcell_keep (c := w4) (a := w3.drew) z2 hw3 k4 (fun h => Nat.lt_irrefl _ h.2)
      clear h4 k4 HS
      go_simp
      refine hK.out _ _ ?_ (fun _ => ?_)
      · (refine ⟨?_, ?_, ?_, ?_⟩ <;> (first | assumption | go_simp))
      clear hK K
      refine wpAnyH_done (by kernel_rfl) ?_ _
      go_wp2_with fail
      exact ⟨⟨k + 1, by omega, by simp, R⟩, by simp [intOf]; omega⟩
    · have hke : k = l.length := by omega
      subst hke
      go_wp2_with fail
      go_ret
      have h1 := hR.out
      rw [List.take_length] at h1
      exact ⟨_, rfl, h1⟩

end Go.Proofs.YtimhgbcanmgajaaGreat
