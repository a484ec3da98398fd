/- What sites tell: counts, entries, names. -/
import Derived.Test.YtimhgbcanmgajaaGreatJoint2
import Derived.Test.YtimhgbcanmgajaaGreatSiNote
import Derived.Lib.SliceRun
import Derived.Maps.AppendAt
namespace Go.Proofs.YtimhgbcanmgajaaGreat
set_option linter.unusedSimpArgs false
set_option linter.unusedVariables false
set_option maxRecDepth 100000
open Go.RowKit

/-- entries in a row, with what they hang on -/
def EnV (TE TD : TypeId) (v : Value) (es : List En) (w : World) : Prop := ∃ l : List (En × Value), l.map (·.1) = es ∧ w.ownsRow 0 TE 5 v l.length (l.map enC).flatten ∧ ∀ p ∈ l, DpV TD p.2 p.1.deps w
theorem enC_len : ∀ (l : List (En × Value)), ∀ r ∈ l.map enC, r.length = 5 := fun l r hr => by
  obtain ⟨d, _, rfl⟩ := List.mem_map.1 hr
  rfl
theorem EnV.on {TE TD : TypeId} {v : Value} {es : List En} {a b : World} (h : EnV TE TD v es a) (k : Below a.heap.size a b) : EnV TE TD v es b := by
  obtain ⟨l, h1, h2, h3⟩ := h
  exact ⟨l, h1, row_keep h2 (fun g hg => by obtain ⟨cur, hc⟩ := row_lt h2 hg; exact k.block g (blk_lt hc)), fun p hp => (h3 p hp).on k⟩
theorem EnV.shape {TE TD : TypeId} {v : Value} {es : List En} {w : World} (h : EnV TE TD v es w) : ∃ ao cap, v = .slice ao es.length cap := by
  obtain ⟨l, h1, h2, _⟩ := h
  obtain ⟨ao, cap, e⟩ := row_shape h2
  exact ⟨ao, cap, by rw [e, ← h1, List.length_map]⟩
theorem EnV.nil (TE TD : TypeId) (w : World) : EnV TE TD (.slice none 0 0) [] w := ⟨[], rfl, World.ownsRow_nil _ _ _ _, fun p hp => by cases hp⟩
section
variable {K s : Nat} {T : Tb} {tb n g cap : Nat} {fs : List Fm} {col : Nat → Nat}
theorem scounts_calls (w : World) (p : TbAt K s T tb n g cap fs col w) :
    Calls Tryz.prog 31 #[.pointer (some ⟨tb, 0, none⟩)] w fun e w' => e = .returned (.tuple #[.int .i64 (T.hits : Int), .int .i64 (T.misses : Int)]) ∧ Below w.heap.size w w' := by
  have HM := hid (smade_calls w p)
  obtain ⟨c0, c1, c2, c3⟩ := p.cells
  obtain ⟨l0, l1, l2⟩ := p.lt
  clear p
  go_enter Tryz.func31, Tryz.ntmps31
  go_wp2_with fail
  refine HM.out.mono ?_
  rintro e1 w1 ⟨rfl, rfl⟩
  go_wp2_with fail
  refine wp_region_held_drew (S := fun aZ => aZ.cell? ⟨tb, 0, none⟩ = some (.pointer (some ⟨n, 0, none⟩)) ∧ aZ.cell? ⟨n, 1, none⟩ = some (.int .i64 (T.hits : Int)) ∧ aZ.cell? ⟨n, 2, none⟩ = some (.int .i64 (T.misses : Int))) (by kernel_rfl) ?_ (fun hHeld => ?_)
  · (refine ⟨?_, ?_, ?_⟩ <;> go_simp)
  refine tkk 0 ?_
  refine tkk 1 ?_
  refine tkk 2 ?_
  refine tkk 3 ?_
  refine tkk 4 ?_
  refine tkk 5 ?_
  refine tkk 6 ?_
  refine tkk 7 ?_
  refine tkk 8 ?_
  refine tkk 9 ?_
  refine tkk 10 ?_
  refine tkk 11 ?_
  refine tkk 12 ?_
  refine tkk 13 ?_
  refine tkk 14 ?_
  refine tkk 15 ?_
  refine wpAnyH_done (by kernel_rfl) ?_ _
  go_wp2_with fail
  go_ret2
  exact ⟨rfl, (Below.refl _ _).drew⟩
end
theorem undDp : Tryz.prog.underlying 63 = some (.slice 113) := by kernel_rfl
theorem infoDp : ∃ i0, Tryz.prog.info? 113 = some i0 ∧ i0.zero = some (.agg #[.int .i64 0, .int .i64 0]) ∧ i0.size = 2 ∧ i0.bytes = 16 :=
  info_parts (show (Tryz.prog.info? 113).map (fun i => (i.zero, i.size, i.bytes)) = some (some (.agg #[.int .i64 0, .int .i64 0]), 2, 16) by kernel_rfl)
theorem sclone_some (w : World) (g cap : Nat) (ds : List Dp) (hnews : ∀ (j : Nat) (u : Value), (ds.map dpC).flatten[j]? = some u → w.cell? ⟨g, j, none⟩ = some u ∧ g < w.heap.size) (hl : ds.length ≤ 300) :
    Calls Tryz.prog 122 #[.slice (some ⟨g, 0, none⟩) ds.length cap] w fun e w' => Below w.heap.size w w' ∧ ∃ ao cap, e = .returned (.slice ao ds.length cap) ∧ DpV 113 (.slice ao ds.length cap) ds w' ∧ ∀ b, (Value.slice ao ds.length cap).ownBlock = some b → w.heap.size ≤ b := by
  have hnl := fun (w : World) (a : Option Addr) (n c : Nat) => Lib.run_eql_slice_nil (P := Tryz.prog) w 63 113 a n c 0 0 undDp
  obtain ⟨i0, hi, hz0, hz1, hz2⟩ := infoDp
  have A := (Below.refl w.heap.size w).alloc (Nat.le_refl _) (Obj.cells #[] 113)
  have RO := hid (show World.ownsRow (w.alloc (Obj.cells #[] 113)) 0 113 2 (.slice (some ⟨w.heap.size, 0, none⟩) 0 0) 0 [] from ⟨rfl, .inr ⟨w.heap.size, 0, #[], rfl, Nat.zero_le _, blk_new w _ _, Nat.le_refl _, Nat.zero_le _, rfl, rfl⟩⟩)
  have NW := hid (show ∀ (j : Nat) (u : Value), (ds.map dpC).flatten[j]? = some u → (w.alloc (Obj.cells #[] 113)).cell? ((⟨g, 0, none⟩ : Addr).add j) = some u from fun j u hj => by
    have e : (⟨g, 0, none⟩ : Addr).add j = ⟨g, j, none⟩ := by unfold Addr.add; split <;> simp_all
    rw [e]
    exact (A.cell (p := ⟨g, j, none⟩) (hnews j u hj).2).trans (hnews j u hj).1)
  have ONE := hid (show ∀ u ∈ (ds.map dpC).flatten, u.oneCell' = true from fun u hu => by
    obtain ⟨r, hr, hu⟩ := List.mem_flatten.1 hu
    obtain ⟨d, _, rfl⟩ := List.mem_map.1 hr
    simp [dpC] at hu
    rcases hu with rfl | rfl <;> rfl)
  have LEN := hid (flat_len (z := 2) (dpC_len ds))
  rw [List.length_map] at LEN
  have HA := hid A
  have hb : ds.length * 16 ≤ 140737488355328 := by omega
  clear A hnews
  go_enter Tryz.func122, Tryz.ntmps122
  go_wp2_with (first | (at_builtin; go_loud (refine wpList_append_own_at _ rfl _ _ 63 rfl 0 113 i0 (.agg #[.int .i64 0, .int .i64 0]) 2 16 undDp hi hz0 hz1 hz2 rfl (by decide) _ _ _ (by rfl) RO.out ⟨g, 0, none⟩ ds.length cap (ds.map dpC).flatten (by rfl) LEN.out NW.out ONE.out (by unfold maxLen; omega) (by omega) (Nat.zero_le _) ?_; intro v' w1 hown' hgrow hnil hloc; have HO := hid hown'; have HG := hid hgrow; have HL := hid hloc; clear hown' hgrow hnil hloc)) | fail)
  have hO := HO.out
  rw [Nat.zero_add, List.nil_append] at hO
  obtain ⟨ao, c2, rfl⟩ := row_shape hO
  go_ret
  refine ⟨HA.out.grown HG.out (by simp) (fun k hk => by simp [Value.ownBlock] at hk; omega), ao, c2, rfl, hO, fun b hb => ?_⟩
  rcases HL.out with h | h
  · rw [h] at hb; simp [Value.ownBlock] at hb; omega
  · rw [h] at hb; injection hb with hb; have := HA.out.size; omega
theorem sclone_calls (w : World) (v : Value) (ds : List Dp) (D : DpV 113 v ds w) (hl : ds.length ≤ 300) :
    Calls Tryz.prog 122 #[v] w fun e w' => Below w.heap.size w w' ∧ ∃ ao cap, e = .returned (.slice ao ds.length cap) ∧ DpV 113 (.slice ao ds.length cap) ds w' ∧ ∀ b, (Value.slice ao ds.length cap).ownBlock = some b → w.heap.size ≤ b := by
  have hnl := fun (w : World) (a : Option Addr) (n c : Nat) => Lib.run_eql_slice_nil (P := Tryz.prog) w 63 113 a n c 0 0 undDp
  rcases D.2 with ⟨rfl, h0⟩ | ⟨g, cap, cur, rfl, _⟩
  · have hds : ds = [] := List.length_eq_zero_iff.1 h0
    subst hds
    clear D h0 hl
    go_enter Tryz.func122, Tryz.ntmps122
    go_wp2_with fail
    go_ret
    exact ⟨Below.refl _ _, none, 0, rfl, World.ownsRow_nil _ _ _ _, fun b hb => by simp [Value.ownBlock] at hb⟩
  · exact sclone_some w g cap ds (fun j u hj => ⟨row_cell D hj, D.lt rfl⟩) hl
theorem elEn : Elem 59 65 5 56 := elem_of (z0 := .agg #[.int .i64 0, .int .i64 0, .int .i64 0, .int .i64 0, .slice none 0 0]) (by kernel_rfl) (by kernel_rfl) rfl
set_option maxHeartbeats 2000000 in
theorem sstate_cell (w : World) {s x : Nat} {t : St} {v : Value} {l : List (En × Value)} (C : CeAt s x t v l w) (hm : t.mega = true → t.l = []) (few : t.l.length ≤ 4) (hdp : ∀ e ∈ t.l, e.deps.length ≤ 300) :
    Calls Tryz.prog 74 #[.pointer (some ⟨x, 0, none⟩)] w fun e w' => Below w.heap.size w w' ∧ ∃ lv, e = .returned (.tuple #[.int .i64 (if t.mega then 3 else if 1 < t.l.length then 2 else (t.l.length : Int)), lv]) ∧ EnV 65 113 lv (if t.mega then [] else t.l) w' := by
  obtain ⟨x4, lx⟩ := C.cell4
  have hb := C.blk
  cases hmt : t.mega with
  | true =>
    rw [ceC_mega hmt] at hb
    have x3 := blk_cell hb 3
    simp only [List.getElem?_toArray, List.getElem?_cons_zero, List.getElem?_cons_succ] at x3
    clear C hb
    go_enter Tryz.func74, Tryz.ntmps74
    go_wp2_with fail
    go_ret2
    exact ⟨Below.refl _ _, .slice none 0 0, rfl, EnV.nil _ _ _⟩
  | false =>
    rw [ceC_not hmt] at hb
    have x3 := blk_cell hb 3
    simp only [List.getElem?_toArray, List.getElem?_cons_zero, List.getElem?_cons_succ] at x3
    have hes := C.es
    have hlen := C.len
    have HC := hid C
    have HE := hid hes
    have HL := hid hlen
    have hl4 : l.length ≤ 4 := by omega
    obtain ⟨vo, vcap, hv⟩ := row_shape C.row
    subst hv
    have HD := hid hdp
    simp only [Bool.false_eq_true, if_false]
    obtain ⟨kd, hkd⟩ : ∃ kd : Int, kd = if 1 < t.l.length then 2 else (t.l.length : Int) := ⟨_, rfl⟩
    rw [← hkd]
    have HKD := hid hkd
    clear C hb hes hlen hdp hkd
    go_enter Tryz.func74, Tryz.ntmps74
    go_wp2_with fail
    go_loopw [4, 17] (fun o i wr => ∃ (k : Nat) (l2 : List (En × Value)) (ao : Option Addr) (cp : Nat), k ≤ l.length ∧ o = .slice ao k cp ∧ i = .int .i64 (k : Int) ∧ Hid (l2.map (·.1) = (l.take k).map (·.1) ∧ wr.ownsRow 0 65 5 (.slice ao k cp) k (l2.map enC).flatten ∧ (∀ p ∈ l2, DpV 113 p.2 p.1.deps wr) ∧ (∀ b, (Value.slice ao k cp).ownBlock = some b → w.heap.size ≤ b) ∧ Below w.heap.size w wr)) (fun o i _ => l.length - (intOf i).toNat)
    case atStart => exact ⟨0, [], none, 0, by omega, rfl, rfl, hid ⟨rfl, World.ownsRow_nil _ _ _ _, (fun p hp => by cases hp), (fun b hb => by simp [Value.ownBlock] at hb), Below.refl _ _⟩⟩
    case round =>
      obtain ⟨k, l2, ao, cp, hk, rfl, rfl, hI⟩ := hrel
      obtain ⟨i1, i2, i3, i4, i5⟩ := hI.out
      by_cases hgo : k < l.length
      · obtain ⟨⟨⟨sh, ho, sl, to, ds⟩, dv⟩, hp⟩ : ∃ p, l[k]? = some p := ⟨l[k], List.getElem?_eq_getElem hgo⟩
        have Cr := HC.out.on i5
        have Dp := Cr.dps _ (List.mem_of_getElem? hp)
        obtain ⟨dao, dcap, hdv⟩ := Dp.shape
        dsimp only at hdv
        subst hdv
        obtain ⟨g, cap, hv, hg, c0, c1, c2, c3, c4, c5⟩ := kept_at Cr.row hp
        injection hv with hv1 _ hv2
        subst hv1 hv2
        dsimp only at c0 c1 c2 c3 c4 c5
        have hdl : ds.length ≤ 300 := HD.out ⟨sh, ho, sl, to, ds⟩ (by rw [← HE.out]; exact List.mem_map.2 ⟨_, List.mem_of_getElem? hp, rfl⟩)
        obtain ⟨W1, hW1⟩ : ∃ W, W = (wr.alloc (Obj.cells #[.int .i64 (sh : Int), .int .i64 ho, .int .i64 sl, .int .i64 (to : Int), .slice dao ds.length dcap, .pointer (some ⟨s, 0, none⟩)] 141)).alloc (Obj.cells #[.int .i64 (sh : Int), .int .i64 ho, .int .i64 sl, .int .i64 (to : Int), .slice dao ds.length dcap] 65) := ⟨_, rfl⟩
        have bW : Below wr.heap.size wr W1 := by rw [hW1]; exact ((Below.refl _ _).alloc (Nat.le_refl _) _).alloc (by simp) _
        have hbE : Blk (wr.heap.size + 1) 65 #[.int .i64 (sh : Int), .int .i64 ho, .int .i64 sl, .int .i64 (to : Int), .slice dao ds.length dcap] W1 := by
          rw [hW1]
          have := blk_new (wr.alloc (Obj.cells #[.int .i64 (sh : Int), .int .i64 ho, .int .i64 sl, .int .i64 (to : Int), .slice dao ds.length dcap, .pointer (some ⟨s, 0, none⟩)] 141)) 65 #[.int .i64 (sh : Int), .int .i64 ho, .int .i64 sl, .int .i64 (to : Int), .slice dao ds.length dcap]
          simpa using this
        have HK := hid (sclone_calls W1 _ ds (Dp.on bW) hdl)
        have HW := hid hW1
        have HbW := hid bW
        have HbE := hid hbE
        have HPk := hid hp
        clear hW1 bW hbE Dp Cr hp hI
        go_wp2_with fail
        rw [← HW.out]
        refine HK.out.mono ?_
        rintro e1 w1 ⟨b1, ao1, cap1, rfl, D1, o1⟩
        have b01 := below_on HbW.out b1
        have hE1 := blk_on HbE.out b1
        have lE1 := blk_lt hE1
        have B2 : Below wr.heap.size wr (w1.setCell ⟨wr.heap.size + 1, 4, none⟩ (.slice ao1 ds.length cap1)) := below_set b01 (by omega) _
        have R2 := hid (row_keep (c := w1.setCell ⟨wr.heap.size + 1, 4, none⟩ (.slice ao1 ds.length cap1)) i2 (fun b hb => by obtain ⟨cur, hc⟩ := row_lt i2 hb; exact B2.block b (blk_lt hc)))
        have hl2 : l2.length = k := by have := congrArg List.length i1; simpa [Nat.min_eq_left (Nat.le_of_lt hgo)] using this
        have hD2 : DpV 113 (.slice ao1 ds.length cap1) ds (w1.setCell ⟨wr.heap.size + 1, 4, none⟩ (.slice ao1 ds.length cap1)) := dp_set D1 (fun b hb e => by
          obtain ⟨cur, hc⟩ := row_lt D1 hb
          rw [e] at hc
          exact absurd (blk_type hc hE1) (by decide))
        obtain ⟨f1, c1', l1⟩ := blk_own hE1
        have hk6 : k ≤ 1000000 := by omega
        have HB2 := hid B2
        have HD2 := hid hD2
        have HI := hid (And.intro i1 (And.intro i3 (And.intro i4 i5)))
        have HO1 := hid o1
        clear b1 b01 hE1 B2 hD2 HK i1 i2 i3 i4 i5 D1 o1
        go_wp2_with (first | (at_builtin; go_loud (refine row_app elEn (by decide) (by decide) rfl _ _ rfl k (l2.map enC).flatten [.int .i64 (sh : Int), .int .i64 ho, .int .i64 sl, .int .i64 (to : Int), .slice ao1 ds.length cap1] rfl (by intro u hu; simp at hu; rcases hu with rfl | rfl | rfl | rfl | rfl <;> rfl) (.slice ao k cp) (by rfl) R2.out w1.heap.size (by rfl) (by simp) hk6 ?_; intro g2 cp2 w2 hown hgrow hat; have HO := hid hown; have HG := hid hgrow; have HAT := hid hat; clear hown hgrow hat)) | fail)
        have kk : Keep (fun b => w.heap.size ≤ b) (w1.setCell ⟨wr.heap.size + 1, 4, none⟩ (.slice ao1 ds.length cap1)) w2 := Keep.grown HG.out (fun j e => HI.out.2.2.1 j e)
        have B3 : Below w.heap.size w w2 := (below_in HI.out.2.2.2 (Nat.le_refl _) HB2.out).trans (kk.below (by have := HB2.out.size; have := HI.out.2.2.2.size; omega) (fun _ h => h))
        have keepD : ∀ (v' : Value) (ds' : List Dp), DpV 113 v' ds' (w1.setCell ⟨wr.heap.size + 1, 4, none⟩ (.slice ao1 ds.length cap1)) → DpV 113 v' ds' w2 := fun v' ds' D => D.keep (fun b hb => HG.out.block b (D.lt hb) (fun e => by
          obtain ⟨cur, hc⟩ := row_lt D hb
          obtain ⟨cur2, hc2⟩ := row_lt R2.out e.symm
          exact absurd (blk_type hc hc2) (by decide)))
        have I2 := hid (show (l2 ++ [((⟨sh, ho, sl, to, ds⟩ : En), (Value.slice ao1 ds.length cap1))]).map (·.1) = (l.take (k + 1)).map (·.1) ∧ w2.ownsRow 0 65 5 (.slice (some ⟨g2, 0, none⟩) (k + 1) cp2) (k + 1) ((l2 ++ [((⟨sh, ho, sl, to, ds⟩ : En), (Value.slice ao1 ds.length cap1))]).map enC).flatten ∧ (∀ p ∈ l2 ++ [((⟨sh, ho, sl, to, ds⟩ : En), (Value.slice ao1 ds.length cap1))], DpV 113 p.2 p.1.deps w2) ∧ (∀ b, (Value.slice (some ⟨g2, 0, none⟩) (k + 1) cp2).ownBlock = some b → w.heap.size ≤ b) ∧ Below w.heap.size w w2 from by
          refine ⟨?_, ?_, fun p hp => ?_, fun b hb => ?_, B3⟩
          · rw [List.map_append, HI.out.1, List.take_add_one, HPk.out, List.map_append]
            rfl
          · rw [List.map_append]
            simp only [List.map_cons, List.map_nil, flat_snoc]
            exact HO.out
          · rcases List.mem_append.1 hp with h | h
            · exact keepD _ _ ((HI.out.2.1 p h).on HB2.out)
            · rw [List.mem_singleton.1 h]; exact keepD _ _ HD2.out
          · injection hb with hb
            subst hb
            rcases HAT.out with h | h
            · exact HI.out.2.2.1 _ h
            · have h' : (w1.setCell ⟨wr.heap.size + 1, 4, none⟩ (.slice ao1 ds.length cap1)).heap.size ≤ g2 := h
              have hg2 : w.heap.size ≤ g2 := by have := HB2.out.size; have := HI.out.2.2.2.size; omega
              exact hg2)
        clear kk B3 keepD HI HD2 R2 HO HG HAT HB2 HO1
        go_roundw
        case rel => exact ⟨k + 1, _, some ⟨g2, 0, none⟩, cp2, by omega, rfl, rfl, I2⟩
        case measure => simp [intOf]; omega
      · have hkl : k = l.length := by omega
        subst hkl
        have hw2 : IntKind.i64.wrap (l.length : Int) = (l.length : Int) := by rw [IntKind.wrap_i64] <;> omega
        have HI := hid (And.intro i1 (And.intro i2 (And.intro i3 i5)))
        clear i1 i2 i3 i4 i5 hI
        have fin : ∀ (m : Int), (m = if 1 < l.length then 2 else (l.length : Int)) → Below w.heap.size w wr ∧ ∃ lv, Ending.returned (.tuple #[.int .i64 m, .slice ao l.length cp]) = .returned (.tuple #[.int .i64 kd, lv]) ∧ EnV 65 113 lv t.l wr := fun m hm => by
          refine ⟨HI.out.2.2.2, .slice ao l.length cp, ?_, l2, ?_, ?_, HI.out.2.2.1⟩
          · rw [hm, HKD.out, HL.out]
          · rw [HI.out.1, List.take_length]; exact HE.out
          · have hl2 : l2.length = l.length := by have := congrArg List.length HI.out.1; simpa using this
            rw [hl2]; exact HI.out.2.1
        have FIN := hid fin
        clear fin HI
        rcases Nat.lt_trichotomy l.length 2 with h | h | h
        · have a1 : (l.length : Int) < 2 := by omega
          have a2 : (l.length : Int) ≤ 2 := by omega
          have a3 : ¬ (2 : Int) < (l.length : Int) := by omega
          have a4 : ¬ (2 : Int) ≤ (l.length : Int) := by omega
          have hm : min (l.length : Int) 2 = (l.length : Int) := by omega
          go_wp2_with fail
          go_ret2
          exact FIN.out _ (by rw [if_neg (by omega)])
        · have a1 : ¬ (l.length : Int) < 2 := by omega
          have a2 : (l.length : Int) ≤ 2 := by omega
          have a3 : ¬ (2 : Int) < (l.length : Int) := by omega
          have a4 : (2 : Int) ≤ (l.length : Int) := by omega
          have hm : min (l.length : Int) 2 = 2 := by omega
          have HH := hid h
          clear h
          go_wp2_with fail
          go_ret2
          exact FIN.out _ (by rw [if_pos (by have := HH.out; omega)]; try (have := HH.out; omega))
        · have a1 : ¬ (l.length : Int) < 2 := by omega
          have a2 : ¬ (l.length : Int) ≤ 2 := by omega
          have a3 : (2 : Int) < (l.length : Int) := by omega
          have a4 : (2 : Int) ≤ (l.length : Int) := by omega
          have hm : min (l.length : Int) 2 = 2 := by omega
          go_wp2_with fail
          go_ret2
          exact FIN.out _ (by rw [if_pos (by omega)])
section
variable {K s : Nat} {T : Tb} {tb n g cap : Nat} {fs : List Fm} {col : Nat → Nat}
/-- there is no such site -/
theorem no_site {w : World} (p : TbAt K s T tb n g cap fs col w) {f k : Int} (h : siteT T f k = none) : (f < 0 ∨ (fs.length : Int) ≤ f) ∨ ∃ (i : Nat) (F : Fm), f = (i : Int) ∧ fs[i]? = some F ∧ decide (0 ≤ k ∧ k < F.count) = false := by
  by_cases hr : 0 ≤ f ∧ f < (fs.length : Int)
  · obtain ⟨i, rfl⟩ : ∃ i : Nat, f = i := ⟨f.toNat, by omega⟩
    have hif : i < fs.length := by omega
    have hir : i < T.all.length := by rw [← p.len]; exact hif
    have hF := List.getElem?_eq_getElem hif
    have hR := List.getElem?_eq_getElem hir
    have hcn := (p.fn i _ _ hF hR).cnt
    refine .inr ⟨i, fs[i], rfl, hF, decide_eq_false (fun hk => ?_)⟩
    unfold siteT at h
    rw [if_pos (by omega), Int.toNat_natCast, hR] at h
    have h' : T.all[i][k.toNat]? = none := h
    have := List.getElem?_eq_none_iff.1 h'
    omega
  · exact .inl (by omega)
/-- there is one -/
theorem has_site {w : World} (p : TbAt K s T tb n g cap fs col w) {f k : Int} {t : St} (h : siteT T f k = some t) : ∃ (i j : Nat) (F : Fm) (r : List St), f = (i : Int) ∧ k = (j : Int) ∧ fs[i]? = some F ∧ T.all[i]? = some r ∧ r[j]? = some t ∧ decide (0 ≤ ((j : Nat) : Int) ∧ ((j : Nat) : Int) < F.count) = true := by
  obtain ⟨i, j, r, rfl, rfl, hR, hT⟩ := siteT_some h
  obtain ⟨F, hF, hFn⟩ := p.get hR
  have := hFn.cnt
  have := lt_of_get hT
  exact ⟨i, j, F, r, rfl, rfl, hF, hR, hT, decide_eq_true (by omega)⟩
set_option maxHeartbeats 1000000 in
theorem sstate_calls {H : He} (w : World) (p : TbAt K s T tb n g cap fs col w) (ok : TbOk H T) (hdp : ∀ r ∈ T.all, ∀ t ∈ r, ∀ e ∈ t.l, e.deps.length ≤ 300) (f k : Int) :
    Calls Tryz.prog 28 #[.pointer (some ⟨tb, 0, none⟩), .int .i64 f, .int .i64 k] w fun e w' => Below w.heap.size w w' ∧ ∃ lv, e = .returned (.tuple #[.int .i64 (stateT T f k).1, lv]) ∧ EnV 65 113 lv (stateT T f k).2 w' := by
  cases hs : siteT T f k with
  | none =>
    have hst : stateT T f k = (0, []) := by unfold stateT; rw [hs]
    rw [hst]
    rcases no_site p hs with h | ⟨i, F, rfl, hF, hk⟩
    · have H1 := hid (sfun_none w p h)
      have H2 := hid (shas_none w k)
      clear p h hs hst
      go_enter Tryz.func28, Tryz.ntmps28
      go_wp2_with fail
      refine H1.out.mono ?_
      rintro e1 w1 ⟨rfl, rfl⟩
      go_wp2_with fail
      refine H2.out.mono ?_
      rintro e2 w2 ⟨rfl, rfl⟩
      go_wp2_with fail
      go_ret2
      exact ⟨Below.refl _ _, _, rfl, EnV.nil _ _ _⟩
    · have H1 := hid (sfun_some w p (lt_of_get hF))
      have H2 := hid (shas_calls w p hF k)
      rw [hk] at H2
      clear p hs hst hk hF
      go_enter Tryz.func28, Tryz.ntmps28
      go_wp2_with fail
      refine H1.out.mono ?_
      rintro e1 w1 ⟨rfl, rfl⟩
      go_wp2_with fail
      refine H2.out.mono ?_
      rintro e2 w2 ⟨rfl, rfl⟩
      go_wp2_with fail
      go_ret2
      exact ⟨Below.refl _ _, _, rfl, EnV.nil _ _ _⟩
  | some t =>
    have hst : stateT T f k = (if t.mega then 3 else if 1 < t.l.length then 2 else (t.l.length : Int), if t.mega then [] else t.l) := by
      unfold stateT
      rw [hs]
      dsimp only
      cases t.mega with
      | true => rfl
      | false =>
        simp only [Bool.false_eq_true, if_false]
        split <;> rfl
    obtain ⟨i, j, F, r, rfl, rfl, hF, hR, hT, hk⟩ := has_site p hs
    generalize hkd : (stateT T (i : Int) (j : Int)).1 = kd
    generalize hls : (stateT T (i : Int) (j : Int)).2 = ls
    have E1 : Hid ((if t.mega then 3 else if 1 < t.l.length then 2 else (t.l.length : Int)) = kd) := hid (by rw [← hkd, hst])
    have E2 : Hid ((if t.mega then [] else t.l) = ls) := hid (by rw [← hls, hst])
    clear hkd hls
    have hok := ok r (List.mem_of_getElem? hR) t (List.mem_of_getElem? hT)
    have hd := hdp r (List.mem_of_getElem? hR) t (List.mem_of_getElem? hT)
    have H1 := hid (sfun_some w p (lt_of_get hF))
    have H2 := hid (shas_calls w p hF (j : Int))
    rw [hk] at H2
    have H3 := hid (scell_at w p hF hR hT hok.mega)
    have HC : Hid (∀ x, F.mega = false → F.cel (j : Int) = some x → ∃ v l, CeAt s x t v l w) := hid (fun x h1 h2 => by
      obtain ⟨⟨v, l, C, _⟩, _⟩ := p.cell hF h1 h2 hR hT
      exact ⟨v, l, C⟩)
    clear p hs hst hk
    go_enter Tryz.func28, Tryz.ntmps28
    go_wp2_with fail
    refine H1.out.mono ?_
    rintro e1 w1 ⟨rfl, rfl⟩
    go_wp2_with fail
    refine H2.out.mono ?_
    rintro e2 w2 ⟨rfl, rfl⟩
    go_wp2_with fail
    refine H3.out.mono ?_
    rintro e3 w3 ⟨b3, ⟨x, hg, hc, rfl, rfl⟩ | ⟨ho, rfl, C, h0, hw⟩⟩
    · obtain ⟨v, l, C⟩ := HC.out x hg hc
      have HS := hid (sstate_cell w3 C hok.mega hok.few hd)
      rw [E1.out, E2.out] at HS
      have HB := hid b3
      clear H1 H2 H3 HC b3 hg hc C hok
      go_wp2_with fail
      refine HS.out.mono ?_
      rintro e4 w4 ⟨b4, lv, rfl, hv⟩
      have HV := hid hv
      have HB4 := hid b4
      clear hv b4 HS
      go_wp2_with fail
      go_ret2
      exact ⟨HB4.out, lv, rfl, HV.out⟩
    · have HS := hid (sstate_cell w3 C hok.mega hok.few hd)
      rw [E1.out, E2.out] at HS
      have HB := hid b3
      clear H1 H2 H3 HC b3 C hok hw
      go_wp2_with fail
      refine HS.out.mono ?_
      rintro e4 w4 ⟨b4, lv, rfl, hv⟩
      have HV := hid hv
      have HB4 := hid b4
      clear hv b4 HS
      go_wp2_with fail
      go_ret2
      exact ⟨below_on HB.out HB4.out, lv, rfl, HV.out⟩
theorem stold_cell (w : World) {s x : Nat} {t : St} {v : Value} {l : List (En × Value)} (C : CeAt s x t v l w) :
    Calls Tryz.prog 77 #[.pointer (some ⟨x, 0, none⟩)] w fun e w' => e = .returned (.tuple #[.string (if t.mega then ⟨#[]⟩ else t.name), .bool (!t.mega && decide (t.as' = 2)), .bool (!t.mega && decide (t.as' ≠ 0))]) ∧ Below w.heap.size w w' := by
  have hb := C.blk
  have hx := blk_lt hb
  obtain ⟨a, b, c, habc, hb'⟩ : ∃ a b c, (a, b, c) = ((if t.mega then ⟨#[]⟩ else t.name : ByteArray), !t.mega && decide (t.as' = 2), !t.mega && decide (t.as' ≠ 0)) ∧ Blk x 208 #[.string a, .bool b, .bool c, .bool t.mega, v] w := by
    refine ⟨_, _, _, rfl, ?_⟩
    cases hm : t.mega with
    | true => rw [ceC_mega hm] at hb; exact hb
    | false => rw [ceC_not hm] at hb; simpa using hb
  injection habc with h1 h2
  injection h2 with h2 h3
  rw [← h1, ← h2, ← h3]
  have x0 := blk_cell hb' 0
  have x1 := blk_cell hb' 1
  have x2 := blk_cell hb' 2
  simp only [List.getElem?_toArray, List.getElem?_cons_zero, List.getElem?_cons_succ] at x0 x1 x2
  clear C hb hb' h1 h2 h3
  go_enter Tryz.func77, Tryz.ntmps77
  go_wp2_with fail
  refine wp_region_held_drew (S := fun aZ => aZ.cell? ⟨x, 0, none⟩ = some (.string a) ∧ aZ.cell? ⟨x, 1, none⟩ = some (.bool b) ∧ aZ.cell? ⟨x, 2, none⟩ = some (.bool c)) (by kernel_rfl) ?_ (fun hHeld => ?_)
  · (refine ⟨?_, ?_, ?_⟩ <;> go_simp)
  refine tkk 0 ?_
  refine tkk 1 ?_
  refine tkk 2 ?_
  refine tkk 3 ?_
  refine tkk 4 ?_
  refine tkk 5 ?_
  refine tkk 6 ?_
  refine tkk 7 ?_
  refine tkk 8 ?_
  refine tkk 9 ?_
  refine tkk 10 ?_
  refine tkk 11 ?_
  refine tkk 12 ?_
  refine tkk 13 ?_
  refine tkk 14 ?_
  refine tkk 15 ?_
  refine tkk 16 ?_
  refine wpAnyH_done (by kernel_rfl) ?_ _
  go_wp2_with fail
  go_ret3
  exact ⟨rfl, (Below.refl _ _).drew⟩
theorem sname_calls {H : He} (w : World) (p : TbAt K s T tb n g cap fs col w) (ok : TbOk H T) (f k : Int) :
    Calls Tryz.prog 30 #[.pointer (some ⟨tb, 0, none⟩), .int .i64 f, .int .i64 k] w fun e w' => e = .returned (.tuple #[.string (nameT T f k).1, .bool (nameT T f k).2.1, .bool (nameT T f k).2.2]) ∧ Below w.heap.size w w' := by
  cases hs : siteT T f k with
  | none =>
    have hst : nameT T f k = (⟨#[]⟩, false, false) := by unfold nameT; rw [hs]
    rw [hst]
    dsimp only
    rcases no_site p hs with h | ⟨i, F, rfl, hF, hk⟩
    · have H1 := hid (sfun_none w p h)
      have H2 := hid (shas_none w k)
      clear p h hs hst
      go_enter Tryz.func30, Tryz.ntmps30
      go_wp2_with fail
      refine H1.out.mono ?_
      rintro e1 w1 ⟨rfl, rfl⟩
      go_wp2_with fail
      refine H2.out.mono ?_
      rintro e2 w2 ⟨rfl, rfl⟩
      go_wp2_with fail
      go_ret3
      exact ⟨rfl, Below.refl _ _⟩
    · have H1 := hid (sfun_some w p (lt_of_get hF))
      have H2 := hid (shas_calls w p hF k)
      rw [hk] at H2
      clear p hs hst hk hF
      go_enter Tryz.func30, Tryz.ntmps30
      go_wp2_with fail
      refine H1.out.mono ?_
      rintro e1 w1 ⟨rfl, rfl⟩
      go_wp2_with fail
      refine H2.out.mono ?_
      rintro e2 w2 ⟨rfl, rfl⟩
      go_wp2_with fail
      go_ret3
      exact ⟨rfl, Below.refl _ _⟩
  | some t =>
    obtain ⟨i, j, F, r, rfl, rfl, hF, hR, hT, hk⟩ := has_site p hs
    have hok := ok r (List.mem_of_getElem? hR) t (List.mem_of_getElem? hT)
    have hst : nameT T (i : Int) (j : Int) = if t.as' = 0 ∨ t.mega then (⟨#[]⟩, false, false) else (t.name, decide (t.as' = 2), true) := by unfold nameT; rw [hs]
    generalize hka : (nameT T (i : Int) (j : Int)).1 = ka
    generalize hkb : (nameT T (i : Int) (j : Int)).2.1 = kb
    generalize hkc : (nameT T (i : Int) (j : Int)).2.2 = kc
    have H1 := hid (sfun_some w p (lt_of_get hF))
    have H2 := hid (shas_calls w p hF (j : Int))
    rw [hk] at H2
    have H3 := hid (scell_at w p hF hR hT hok.mega)
    have HC : Hid (∀ x, F.mega = false → F.cel (j : Int) = some x → ∃ v l, CeAt s x t v l w ∧ (t.as' ≠ 0 ∨ t.mega = true)) := hid (fun x h1 h2 => by
      obtain ⟨⟨v, l, C, _⟩, hf⟩ := p.cell hF h1 h2 hR hT
      exact ⟨v, l, C, hf⟩)
    have HE : Hid ((t.as' ≠ 0 ∨ t.mega = true ∨ t = st0) → (if t.mega then ⟨#[]⟩ else t.name : ByteArray) = ka ∧ (!t.mega && decide (t.as' = 2)) = kb ∧ (!t.mega && decide (t.as' ≠ 0)) = kc) := hid (fun h => by
      rw [← hka, ← hkb, ← hkc, hst]
      cases hm : t.mega with
      | true => simp
      | false =>
        by_cases h0 : t.as' = 0
        · have : t = st0 := by
            rcases h with h | h | h
            · exact absurd h0 h
            · rw [hm] at h; cases h
            · exact h
          subst this
          simp [st0]
        · simp [h0])
    have HMG : Hid (F.mega = true → t.mega = true) := hid (fun h => (p.fn i F r hF hR).meg h t (List.mem_of_getElem? hT))
    clear p hs hst hk hka hkb hkc
    go_enter Tryz.func30, Tryz.ntmps30
    go_wp2_with fail
    refine H1.out.mono ?_
    rintro e1 w1 ⟨rfl, rfl⟩
    go_wp2_with fail
    refine H2.out.mono ?_
    rintro e2 w2 ⟨rfl, rfl⟩
    go_wp2_with fail
    refine H3.out.mono ?_
    rintro e3 w3 ⟨b3, ⟨x, hg, hc, rfl, rfl⟩ | ⟨ho, rfl, C, h0, hw⟩⟩
    · obtain ⟨v, l, C, hf⟩ := HC.out x hg hc
      obtain ⟨q1, q2, q3⟩ := HE.out (by rcases hf with h | h; exact .inl h; exact .inr (.inl h))
      have HS := hid (stold_cell w3 C)
      rw [q1, q2, q3] at HS
      clear H1 H2 H3 HC b3 hg hc C hok hf q1 q2 q3 HE
      go_wp2_with fail
      refine HS.out.mono ?_
      rintro e4 w4 ⟨rfl, b4⟩
      have HB4 := hid b4
      clear b4 HS
      go_wp2_with fail
      go_ret3
      exact ⟨rfl, HB4.out⟩
    · obtain ⟨q1, q2, q3⟩ := HE.out (by
        cases hg : F.mega with
        | true => exact .inr (.inl (HMG.out hg))
        | false => exact .inr (.inr (h0 hg)))
      have HS := hid (stold_cell w3 C)
      rw [q1, q2, q3] at HS
      have HB := hid b3
      clear H1 H2 H3 HC b3 C hok hw q1 q2 q3 HE ho h0
      go_wp2_with fail
      refine HS.out.mono ?_
      rintro e4 w4 ⟨rfl, b4⟩
      have HB4 := hid b4
      clear b4 HS
      go_wp2_with fail
      go_ret3
      exact ⟨rfl, below_on HB.out HB4.out⟩
end
end Go.Proofs.YtimhgbcanmgajaaGreat
