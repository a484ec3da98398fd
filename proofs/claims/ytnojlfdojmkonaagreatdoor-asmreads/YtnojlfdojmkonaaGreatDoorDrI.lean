/- The document's take: an instruction's line. -/
import Derived.Test.YtnojlfdojmkonaaGreatDoorJoint2
import Derived.Test.YtnojlfdojmkonaaGreatDoorDrC
import Derived.Test.YtnojlfdojmkonaaGreatDoorDaW
namespace Go.Proofs.YtnojlfdojmkonaaGreatDoor
set_option linter.unusedSimpArgs false
set_option maxRecDepth 100000
open Go.RowKit

/-- two more at the end of a row of one's own -/
theorem row_app2 {sT eT : TypeId} {bytes : Nat} (hE : Elem sT eT 1 bytes) (hby : bytes ≤ 1000) {ops : Array Oper} {rest : List Oper} {o : Oper} {a : Act} {Q : Exit → Act → World → Prop} {w : World} (hgd : o.guard = none) (s x : Operand)
    (ho : o.op = .call { callee := .builtin .append, args := #[s, x], argTypes := #[sT, sT] }) (n : Nat) (xs news : List Value) (hnl : news.length = 2) (one : ∀ u ∈ news, u.oneCell' = true) (v : Value) (hs : a.eval s = v) (hown : w.ownsRow 0 eT 1 v n xs)
    (nb : Nat) (hx : a.eval x = .slice (some ⟨nb, 0, none⟩) 2 2) (hnb : nb = w.heap.size) (hlen : n ≤ 1000000)
    (h : ∀ g cap w', w'.ownsRow 0 eT 1 (.slice (some ⟨g, 0, none⟩) (n + 2) cap) (n + 2) (xs ++ news) → w.grownBy w' v.ownBlock → (v.ownBlock = some g ∨ w.heap.size ≤ g) → wpList Tryz.prog ops Q rest (a.put o.dst (.slice (some ⟨g, 0, none⟩) (n + 2) cap)) w') :
    wpList Tryz.prog ops Q (o :: rest) a (w.alloc (.cells news.toArray eT)) := by
  refine wpList_plain hgd fun _ hK' => ?_
  subst hnb
  obtain ⟨hu, i0, z0, hi, hz0, hzc, hz1, hz2⟩ := hE
  have A : Below w.heap.size w (w.alloc (.cells news.toArray eT)) := (Below.refl w.heap.size w).alloc (Nat.le_refl _) _
  have hsz : (w.alloc (.cells news.toArray eT)).heap.size = w.heap.size + 1 := by simp
  have hnew : (w.alloc (.cells news.toArray eT)).heap[w.heap.size]? = some (.cells news.toArray eT (0, 0)) := heap_alloc_new w _
  have hb : (n + 2) * bytes ≤ 140737488355328 := by
    have h1 : (n + 2) * bytes ≤ 1000002 * 1000 := Nat.mul_le_mul (by omega) hby
    omega
  refine wp_append_lies _ s x sT ho 0 eT i0 z0 1 bytes hu hi hz0 hz1 hz2 hzc (by decide) v n xs hs (row_keep hown (fun g hg => by
    obtain ⟨cur, hc⟩ := row_lt hown hg
    exact A.block g (blk_lt hc))) ⟨w.heap.size, 0, none⟩ 2 2 news hx (by omega) (World.news_of_block hnew) one (by decide) (by unfold maxLen; omega) hb (Nat.zero_le _) (w.heap.size + 1) hsz ?_
  intro g cap w' hown' hgrow hat hlt
  refine hK' _ _ (h g cap w' hown' ?_ ?_)
  · refine ⟨hgrow.os.trans A.os, hgrow.tape.trans A.tape, hgrow.output.trans A.output, Nat.le_trans A.size hgrow.size, fun k hk hne => ?_⟩
    rw [hgrow.block k (by omega) hne, A.block k hk]
  · rcases hat with h1 | h1
    · exact .inl h1
    · exact .inr (by omega)
theorem insF_first {o : Int} {m : List Int} {s : List UInt8} : ∀ {a : List Int} (b : List Int), (∀ q ∈ a, numsP s (opW q) (prtN q) = none) → numsP s (opW o) (prtN o) = some m → insF (a ++ o :: b) s = some (o, m.headD 0, m.tail.headD 0)
  | [], b, _, hm => by rw [List.nil_append, insF, hm]
  | q :: a, b, h, hm => by
    rw [List.cons_append, insF, h q (by simp)]
    exact insF_first b (fun q' hq => h q' (by simp [hq])) hm
theorem ops_at : ∀ k : Fin 32, opsL = opsL.take k.val ++ ((k.val : Int) + 1) :: opsL.drop (k.val + 1) := by decide
theorem ops_next : ∀ k : Fin 32, opsL.take (k.val + 1) = opsL.take k.val ++ [(k.val : Int) + 1] := by decide
theorem insR_first {k : Nat} (hk : k < 32) {m : List Int} {s : List UInt8} (h : ∀ q ∈ opsL.take k, numsP s (opW q) (prtN q) = none) (hm : numsP s (opW ((k : Int) + 1)) (prtN ((k : Int) + 1)) = some m) : insR s = some ((k : Int) + 1, m.headD 0, m.tail.headD 0) := by
  unfold insR
  rw [ops_at ⟨k, hk⟩]
  exact insF_first _ h hm
theorem ops_more {k : Nat} (hk : k < 32) {s : List UInt8} (h : ∀ q ∈ opsL.take k, numsP s (opW q) (prtN q) = none) (hm : numsP s (opW ((k : Int) + 1)) (prtN ((k : Int) + 1)) = none) : ∀ q ∈ opsL.take (k + 1), numsP s (opW q) (prtN q) = none := by
  intro q hq
  rw [ops_next ⟨k, hk⟩] at hq
  rcases List.mem_append.1 hq with hq | hq
  · exact h q hq
  · rw [List.mem_singleton.1 hq]; exact hm
theorem ops_none {s : List UInt8} (h : ∀ q ∈ opsL.take 32, numsP s (opW q) (prtN q) = none) : insR s = none := insF_none (fun q hq => h q hq)
theorem two_at {ms : List Int} (g : Nat) {cap : Nat} {w : World} (h : w.ownsRow 0 3 1 (.slice (some ⟨g, 0, none⟩) (ms.length + 2) cap) (ms.length + 2) (ms.map (Value.int .i64) ++ [.int .i64 0, .int .i64 0])) : w.cell? ⟨g, 0, none⟩ = some (.int .i64 (ms.headD 0)) ∧ w.cell? ⟨g, 1, none⟩ = some (.int .i64 (ms.tail.headD 0)) := by
  match ms, h with
  | [], h => exact ⟨row_cell h rfl, row_cell h rfl⟩
  | [a], h => exact ⟨row_cell h rfl, row_cell h rfl⟩
  | a :: b :: r, h => exact ⟨row_cell h rfl, row_cell h rfl⟩
set_option maxHeartbeats 6400000 in
theorem dtake_ins {B r n : Nat} {P : Pg} {pv cv : Value} {xs : List Cv} (s : ByteArray) (w : World) (hB : B ≤ w.heap.size) (h : Hid (DrB B r P pv cv xs w)) (hs : s.size ≤ 900000) (hn : Hid (n ≠ 0)) (hc : Hid (P.codes ≠ [])) (hci : Hid (∀ x ∈ xs, x.1.ins.length ≤ 1000000)) (hx : xs.length ≤ 1000000) :
    Calls Tryz.prog 25 #[.pointer (some ⟨r, 0, none⟩), .string s, .int .i64 (n : Int)] w (TkOut B r n P s.data.toList w) := by
  have OT := hid (show ∀ W Q pv cv xs, Below B w W → takeP P n s.data.toList = some Q → DrB B r Q pv cv xs W → TkOut B r n P s.data.toList w (.returned (.bool true)) W from fun W Q pv cv xs h1 h2 h3 => ⟨true, rfl, h1, .inl ⟨rfl, Q, pv, cv, xs, h2, h3⟩⟩)
  have OF := hid (show ∀ W, Below B w W → takeP P n s.data.toList = none → TkOut B r n P s.data.toList w (.returned (.bool false)) W from fun W h1 h2 => ⟨false, rfl, h1, .inr ⟨rfl, h2⟩⟩)
  have TC := hid (fun m (hm : numsP s.data.toList codW 4 = some m) => takeP_code (P := P) hn.out (fun _ h5 => by rw [pool_word h5] at hm; cases hm) hm)
  have hne : ((n : Int) == 0) = false := beq_eq_false_iff_ne.2 (by have := hn.out; omega)
  obtain ⟨ca, cc, rfl⟩ := row_shape h.out.codes
  have hxl : xs.length = P.codes.length := by
    have := congrArg List.length h.out.fst
    rwa [List.length_map] at this
  have k2 : w.cell? ⟨r, 2, none⟩ = some (.slice ca xs.length cc) := blk_cellZ h.out.blk 2 rfl
  have hxp : 0 < xs.length := by
    rw [hxl]
    exact List.length_pos_iff.2 hc.out
  have hx0 : ((xs.length : Int) == 0) = false := beq_eq_false_iff_ne.2 (by omega)
  have hx1 : decide ((xs.length : Int) > 0) = true := decide_eq_true (by omega)
  clear hxl
  go_enter Tryz.func25, Tryz.ntmps25
  go_wp2_with fail
  refine (dnumbers_calls s ⟨#[99, 111, 100, 101]⟩ 4 w hs (by decide)).mono ?_
  rintro e w2 ⟨⟨v, b, rfl, hb⟩, b2⟩
  have B2 := hid (b2.mono hB)
  have R2 := hid (h.out.on b2)
  have hB2 : B ≤ w2.heap.size := Nat.le_trans hB b2.size
  clear b2 k2
  cases b with
  | false =>
    have hN : numsP s.data.toList codW 4 = none := by
      rcases hb with ⟨h, _⟩ | ⟨_, h⟩
      · cases h
      · exact h
    obtain ⟨ys, ⟨c, iv⟩, hxs⟩ : ∃ ys y, xs = ys ++ [y] := by
      rcases List.eq_nil_or_concat xs with e | ⟨a, b, e⟩
      · rw [e] at hxp; exact absurd hxp (by decide)
      · exact ⟨a, b, by rw [e, List.concat_eq_append]⟩
    have HXS := hid hxs
    have hlx : xs.length = ys.length + 1 := by rw [hxs]; simp
    have hwk : IntKind.i64.wrap ((xs.length : Int) - 1) = (ys.length : Int) := by rw [IntKind.wrap_i64]; omega
    have hge : (0 : Int) ≤ (ys.length : Int) := by omega
    have hlt : (ys.length : Int) < (xs.length : Int) := by omega
    have HLX := hid hlx
    have TI := hid (takeP_ins (cs := ys.map Prod.fst) (c := c) hn.out (by rw [← h.out.fst, hxs]; simp) hN)
    have hcf := h.out.codes.form hxp
    obtain ⟨q, qc, hcv, _, hqs⟩ := hcf
    injection hcv with e1 _ e2
    subst e1 e2
    have HCI := hid (hci.out (c, iv) (by rw [hxs]; simp))
    clear hb hN hxs hlx
    go_wp2_with fail
    go_loopw [15] (fun kv wr => ∃ k : Nat, k ≤ 32 ∧ kv = .int .i64 ((k : Int) + 1) ∧ Hid ((∀ o ∈ opsL.take k, numsP s.data.toList (opW o) (prtN o) = none) ∧ Below w2.heap.size w2 wr)) (fun kv _ => 33 - (intOf kv).toNat)
    case atStart => exact ⟨0, by decide, rfl, hid ⟨fun _ h => (nomatch h), Below.refl _ _⟩⟩
    case round =>
      obtain ⟨k, hk, rfl, hR⟩ := hrel
      rename World => wr
      have LR := hid hR.out.2
      have OPN := hid hR.out.1
      clear hR
      by_cases hk32 : k < 32
      · have hple : prtN ((k : Int) + 1) ≤ 2 := by rcases prt_cases ((k : Int) + 1) with h | h | h <;> rw [h] <;> decide
        have hple4 : prtN ((k : Int) + 1) ≤ 4 := by omega
        have hle32 : (k : Int) + 1 ≤ 32 := by omega
        go_wp2_with fail
        refine (rname_calls ((k : Int) + 1) wr).mono ?_
        rintro e w3 ⟨rfl, b3⟩
        have L3 := hid (LR.out.trans (b3.mono LR.out.size))
        clear b3
        go_wp2_with fail
        refine (rparts_calls ((k : Int) + 1) w3).mono ?_
        rintro e w4 ⟨rfl, rfl⟩
        go_wp2_with fail
        refine (dnumbers_calls s ⟨(opW ((k : Int) + 1)).toArray⟩ (prtN ((k : Int) + 1)) w4 hs hple4).mono ?_
        rintro e w5 ⟨⟨v', b, rfl, hb⟩, b5⟩
        have L5 := hid (L3.out.trans (b5.mono L3.out.size))
        have HSZ5 := hid b5.size
        clear b5
        cases b with
        | false =>
          have hN : numsP s.data.toList (opW ((k : Int) + 1)) (prtN ((k : Int) + 1)) = none := by
            rcases hb with ⟨h, _⟩ | ⟨_, h⟩
            · cases h
            · exact h
          have ON := hid (ops_more hk32 OPN.out hN)
          clear hb hN
          go_wp2_with fail
          exact ⟨⟨k + 1, by omega, by simp, hid ⟨ON.out, L5.out⟩⟩, by simp [intOf]; omega⟩
        | true =>
          obtain ⟨ms, hm, hrow, hlow⟩ : ∃ ms, numsP s.data.toList (opW ((k : Int) + 1)) (prtN ((k : Int) + 1)) = some ms ∧ w5.ownsRow 0 3 1 v' ms.length (ms.map (Value.int .i64)) ∧ ∀ g, v'.ownBlock = some g → w4.heap.size ≤ g := by
            rcases hb with ⟨_, h⟩ | ⟨h, _⟩
            · exact h
            · cases h
          have hml : ms.length ≤ 1000000 := by have := nums_len hm; omega
          have IR := hid (show takeP P n s.data.toList = some ⟨P.g, P.pool, P.codes.dropLast ++ [⟨c.p, c.l, c.s, c.d, c.ins ++ [((k : Int) + 1, ms.headD 0, ms.tail.headD 0)]⟩]⟩ by rw [TI.out, insR_first hk32 OPN.out hm]; rfl)
          have HROW := hid hrow
          have HLOW := hid hlow
          obtain ⟨da, dc, rfl⟩ := row_shape hrow
          clear hb hm hrow hlow
          generalize hdn : ms.map (Value.int .i64) = done at *
          have HDN := hid hdn
          clear hdn
          go_wp2_with (first | (at_builtin; refine row_app2 elNm (by decide) rfl _ _ rfl ms.length done [.int .i64 0, .int .i64 0] rfl (by intro u hu; simp at hu; rcases hu with rfl | rfl <;> rfl) (.slice da ms.length dc) (by rfl) HROW.out w5.heap.size (by rfl) rfl hml ?_; intro g cp w6 hown hgrow hat; have HO := hid hown; have HG := hid hgrow; have HT := hid hat; clear hown hgrow hat) | fail)
          have hi0 : (0 : Int) < (ms.length : Int) + 2 := by omega
          have hi1 : (1 : Int) < (ms.length : Int) + 2 := by omega
          have TW := two_at g (by rw [HDN.out]; exact HO.out)
          generalize ms.headD 0 = n1 at *
          generalize ms.tail.headD 0 = n2 at *
          have L6 := hid (L5.out.trans ((Keep.grown (S := fun y => w2.heap.size ≤ y) HG.out (fun y hy => Nat.le_trans L3.out.size (HLOW.out y hy))).below L5.out.size (fun _ h => h)))
          have R6 := hid (R2.out.on L6.out)
          have B6 := hid (B2.out.trans (L6.out.mono hB2))
          have hB6 : B ≤ w6.heap.size := Nat.le_trans hB B6.out.size
          obtain ⟨gcur, hgb⟩ := row_lt HO.out (g := g) rfl
          have hg6 := blk_lt hgb
          obtain ⟨qcur, hqb⟩ := row_lt R6.out.codes (g := q) rfl
          have HQB := hid hqb
          have hq6 := blk_lt hqb
          have hr6 := R6.out.rlt
          have hgr : ¬ g = r := blk_ne hgb R6.out.blk (by decide)
          have hrg : ¬ r = g := fun e => hgr e.symm
          have hgq : ¬ g = q := blk_ne hgb hqb (by decide)
          have hqg : ¬ q = g := fun e => hgq e.symm
          have hrq : ¬ r = q := blk_ne R6.out.blk hqb (by decide)
          have hqr : ¬ q = r := fun e => hrq e.symm
          have k0 : w6.cell? ⟨g, 0, none⟩ = some (.int .i64 n1) := TW.1
          have k1 : w6.cell? ⟨g, 1, none⟩ = some (.int .i64 n2) := TW.2
          have e2 : w6.cell? ⟨r, 2, none⟩ = some (.slice (some ⟨q, 0, none⟩) xs.length cc) := blk_cellZ R6.out.blk 2 rfl
          have hmem : (c, iv) ∈ xs := by rw [HXS.out]; simp
          have hiv := R6.out.ins (c, iv) hmem
          simp only at hiv
          obtain ⟨ia, ic, rfl⟩ := row_shape hiv
          have HIV := hid hiv
          have HGB := hid hgb
          have e3 : w6.cell? ⟨q, ys.length * 5 + 4, none⟩ = some (.slice ia c.ins.length ic) := by
            have := R6.out.codes
            rw [Nat.mul_comm]
            exact row_cell this (cdC_at (l := xs) (i := ys.length) (x := (c, .slice ia c.ins.length ic)) (by rw [HXS.out]; simp)).2.2.2.2
          have RY := hid (show DrB B r P pv (.slice (some ⟨q, 0, none⟩) (ys.length + 1) cc) (ys ++ [(c, .slice ia c.ins.length ic)]) w6 by
            have := R6.out
            rw [HLX.out, HXS.out] at this
            exact this)
          clear TW hgb hqb hiv hmem L6 L5 L3 LR HO HG HT HLOW HROW
          go_upto_region 23 with fail
          refine wp_region_held_drew (S := fun aZ => aZ.cell? ⟨r, 2, none⟩ = some (.slice (some ⟨q, 0, none⟩) xs.length cc) ∧ aZ.cell? ⟨g, 0, none⟩ = some (.int .i64 n1) ∧ aZ.cell? ⟨g, 1, none⟩ = some (.int .i64 n2)) (by kernel_rfl) ?_ (fun hHeld => ?_)
          · (refine ⟨?_, ?_, ?_⟩ <;> go_simp)
          refine tkk 0 ?_
          refine tkk 1 ?_
          refine tkk 2 ?_
          refine tkk 3 ?_
          refine tkk 4 ?_
          refine tk 5 (v := .int .i64 (ys.length : Int)) ?_ ?_
          · (intro w hSw; go_simp <;> (first | rfl | (simp [hwk])))
          refine tkk 6 ?_
          refine tkk 7 ?_
          refine tkk 8 ?_
          refine tkk 9 ?_
          refine tkk 10 ?_
          refine tk 11 (v := .int .i64 (ys.length : Int)) ?_ ?_
          · (intro w hSw; go_simp <;> (first | rfl | (simp [hwk])))
          refine tk 12 (v := .pointer (some ⟨q, ys.length * 5, none⟩)) ?_ ?_
          · (intro w hSw; go_simp <;> (simp [hge, hlt]))
          refine tkk 13 ?_
          refine tkk 15 ?_
          refine tkk 16 ?_
          refine tkk 17 ?_
          refine tkk 18 ?_
          refine tkk 19 ?_
          refine tkk 20 ?_
          refine tkk 21 ?_
          refine tkk 22 ?_
          refine wpAnyH_ready (rs := [14, 23]) (by kernel_rfl) (by simp) ?_
          refine AllReadyH.cons rfl (fun K hK => ?_) (AllReadyH.cons rfl (fun K hK => ?_) AllReadyH.nil)
          go_simp
          refine hK.out _ _ ?_ (fun _ => ?_)
          · (refine ⟨?_, ?_, ?_⟩ <;> (first | assumption | go_simp))
          clear hK K
          refine rdy 23 (fun K hK => ?_)
          go_simp
          refine hK.out _ _ ?_ (fun _ => ?_)
          · (refine ⟨?_, ?_, ?_⟩ <;> (first | assumption | go_simp))
          clear hK K
          rotate_left 1
          go_simp
          refine hK.out _ _ ?_ (fun _ => ?_)
          · (refine ⟨?_, ?_, ?_⟩ <;> (first | assumption | go_simp))
          clear hK K
          refine rdy 14 (fun K hK => ?_)
          go_simp
          refine hK.out _ _ ?_ (fun _ => ?_)
          · (refine ⟨?_, ?_, ?_⟩ <;> (first | assumption | go_simp))
          clear hK K
          rotate_left 1
          all_goals
            refine rdy 24 (fun K hK => ?_)
            refine row_app_step elIn (by decide) (by decide) rfl _ _ rfl c.ins.length (inC c.ins) [.int .i64 ((k : Int) + 1), .int .i64 n1, .int .i64 n2] rfl (by intro u hu; simp at hu; rcases hu with rfl | rfl | rfl <;> rfl) (.slice ia c.ins.length ic) (by rfl) HIV.out w6.heap.size (by rfl) rfl HCI.out (.inr (.inr rfl)) ?_
            intro g' cp w8 hown hgrow hat
            have hn' : ¬ (Value.slice ia c.ins.length ic).ownBlock = some q := fun e => by
              obtain ⟨cur, hc⟩ := row_lt HIV.out e
              exact blk_ne hc HQB.out (by decide) rfl
            have hnr : ¬ (Value.slice ia c.ins.length ic).ownBlock = some r := fun e => by
              obtain ⟨cur, hc⟩ := row_lt HIV.out e
              exact blk_ne hc R6.out.blk (by decide) rfl
            have hng : ¬ (Value.slice ia c.ins.length ic).ownBlock = some g := fun e => by
              obtain ⟨cur, hc⟩ := row_lt HIV.out e
              exact blk_ne hc HGB.out (by decide) rfl
            have q0 : w8.cell? ⟨q, ys.length * 5 + 4, none⟩ = some (.slice ia c.ins.length ic) := (hgrow.cell_far ⟨q, ys.length * 5 + 4, none⟩ hq6 (fun e => hn' e.symm)).trans e3
            have q1 : w8.frozen? ⟨q, ys.length * 5 + 4, none⟩ = false := (hgrow.frozen_far ⟨q, ys.length * 5 + 4, none⟩ hq6 (fun e => hn' e.symm)).trans (blk_free HQB.out _)
            have HR8 := RY.out.one (x := ((k : Int) + 1, n1, n2)) hB6 hown hgrow hat
            rw [Nat.mul_comm 5] at HR8
            have HR8 := hid HR8
            have K8 := hid (B6.out.trans (((Keep.grown (S := fun b => B ≤ b) hgrow (fun k hk => RY.out.ilow _ (List.mem_append_right _ (List.mem_singleton.2 rfl)) k hk)).trans (Keep.set (S := fun b => B ≤ b) (RY.out.clow q rfl) w8 (ys.length * 5 + 4) (.slice (some ⟨g', 0, none⟩) (c.ins.length + 1) cp)) (fun _ _ h => h)).below hB6 (fun _ h => h)))
            have u0 : w8.cell? ⟨g, 0, none⟩ = some (.int .i64 n1) := (hgrow.cell_far ⟨g, 0, none⟩ hg6 (fun e => hng e.symm)).trans k0
            have u1 : w8.cell? ⟨g, 1, none⟩ = some (.int .i64 n2) := (hgrow.cell_far ⟨g, 1, none⟩ hg6 (fun e => hng e.symm)).trans k1
            have u2 : w8.cell? ⟨r, 2, none⟩ = some (.slice (some ⟨q, 0, none⟩) xs.length cc) := (hgrow.cell_far ⟨r, 2, none⟩ hr6 (fun e => hnr e.symm)).trans e2
            clear hown hgrow hat hn' hnr hng e2 e3 k0 k1
            refine hK.out _ _ ?_ (fun _ => ?_)
            · (refine ⟨?_, ?_, ?_⟩ <;> (first | assumption | go_simp))
            clear hK K
            simp only [Act.put, List.setIfInBounds_toArray, List.set_cons_zero, List.set_cons_succ, List.getElem_toArray, List.getElem_cons_succ, List.getElem_cons_zero]
            refine tk 25 (v := .pointer (some ⟨q, ys.length * 5, none⟩)) ?_ ?_
            · (intro w hSw; go_simp <;> (simp [hge, hlt]))
            refine tkk 26 ?_
            refine rdy 27 (fun K hK => ?_)
            go_simp
            refine hK.out _ _ ?_ (fun _ => ?_)
            · (refine ⟨?_, ?_, ?_⟩ <;> (first | assumption | go_simp))
            clear hK K
            refine wpAnyH_done (by kernel_rfl) ?_ _
            go_wp2_with fail
            go_ret
            exact OT.out _ _ _ _ _ (by first | exact K8.out | exact K8.out.drew) IR.out (by first | exact HR8.out | exact HR8.out.on ((Below.refl _ _).drew))
      · have hk33 : k = 32 := by omega
        subst hk33
        have N := hid (show takeP P n s.data.toList = none by rw [TI.out, ops_none OPN.out]; rfl)
        have LB := hid (B2.out.trans (LR.out.mono hB2))
        clear hk hk32
        go_wp2_with fail
        go_ret
        exact OF.out _ LB.out N.out
  | true =>
    obtain ⟨ms, hm, hrow, hlow⟩ : ∃ ms, numsP s.data.toList codW 4 = some ms ∧ w2.ownsRow 0 3 1 v ms.length (ms.map (Value.int .i64)) ∧ ∀ g, v.ownBlock = some g → w.heap.size ≤ g := by
      rcases hb with ⟨_, h⟩ | ⟨h, _⟩
      · exact h
      · cases h
    obtain ⟨n0, n1, n2, n3, rfl⟩ := four_of (nums_len hm)
    have N := hid (show takeP P n s.data.toList = some ⟨P.g, P.pool, P.codes ++ [⟨n0, n1, n2, n3, []⟩]⟩ from TC.out _ hm)
    obtain ⟨g, cap, rfl, _, hg⟩ := hrow.form (by simp)
    have k0 : w2.cell? ⟨g, 0, none⟩ = some (.int .i64 n0) := row_cell hrow rfl
    have k1 : w2.cell? ⟨g, 1, none⟩ = some (.int .i64 n1) := row_cell hrow rfl
    have k2 : w2.cell? ⟨g, 2, none⟩ = some (.int .i64 n2) := row_cell hrow rfl
    have k3 : w2.cell? ⟨g, 3, none⟩ = some (.int .i64 n3) := row_cell hrow rfl
    have e2 : w2.cell? ⟨r, 2, none⟩ = some (.slice ca xs.length cc) := blk_cellZ R2.out.blk 2 rfl
    have hr2 := R2.out.rlt
    have HROW := hid hrow
    have hgr : ¬ g = r := by
      obtain ⟨cur', hc'⟩ := row_lt hrow (g := g) rfl
      exact blk_ne hc' R2.out.blk (by decide)
    have hrg : ¬ r = g := fun e => hgr e.symm
    clear hb hm hrow hlow
    simp only [List.length_cons, List.length_nil, Nat.zero_add]
    go_upto_region 15 with fail
    refine wp_region_held_drew (S := fun aZ => aZ.cell? ⟨g, 0, none⟩ = some (.int .i64 n0) ∧ aZ.cell? ⟨g, 1, none⟩ = some (.int .i64 n1) ∧ aZ.cell? ⟨g, 2, none⟩ = some (.int .i64 n2) ∧ aZ.cell? ⟨g, 3, none⟩ = some (.int .i64 n3)) (by kernel_rfl) ?_ (fun hHeld => ?_)
    · (refine ⟨?_, ?_, ?_, ?_⟩ <;> go_simp)
    refine tkk 0 ?_
    refine tkk 1 ?_
    refine tkk 2 ?_
    refine tkk 3 ?_
    refine tkk 5 ?_
    refine tkk 6 ?_
    refine tkk 7 ?_
    refine tkk 8 ?_
    refine tkk 9 ?_
    refine tkk 10 ?_
    refine tkk 11 ?_
    refine tkk 12 ?_
    refine tkk 13 ?_
    refine tkk 14 ?_
    refine tkk 15 ?_
    refine tkk 16 ?_
    refine tkk 17 ?_
    refine wpAnyH_ready (rs := [4, 18]) (by kernel_rfl) (by simp) ?_
    refine AllReadyH.cons rfl (fun K hK => ?_) (AllReadyH.cons rfl (fun K hK => ?_) AllReadyH.nil)
    go_simp
    refine hK.out _ _ ?_ (fun _ => ?_)
    · (refine ⟨?_, ?_, ?_, ?_⟩ <;> (first | assumption | go_simp))
    clear hK K
    refine rdy 18 (fun K hK => ?_)
    go_simp
    refine hK.out _ _ ?_ (fun _ => ?_)
    · (refine ⟨?_, ?_, ?_, ?_⟩ <;> (first | assumption | go_simp))
    clear hK K
    rotate_left 1
    go_simp
    refine hK.out _ _ ?_ (fun _ => ?_)
    · (refine ⟨?_, ?_, ?_, ?_⟩ <;> (first | assumption | go_simp))
    clear hK K
    refine rdy 4 (fun K hK => ?_)
    go_simp
    refine hK.out _ _ ?_ (fun _ => ?_)
    · (refine ⟨?_, ?_, ?_, ?_⟩ <;> (first | assumption | go_simp))
    clear hK K
    rotate_left 1
    all_goals
      refine rdy 19 (fun K hK => ?_)
      refine row_app_step elCd (by decide) (by decide) rfl _ _ rfl xs.length (cdC xs) [.int .i64 n0, .int .i64 n1, .int .i64 n2, .int .i64 n3, .slice none 0 0] rfl (by intro u hu; simp at hu; rcases hu with rfl | rfl | rfl | rfl | rfl <;> rfl) (.slice ca xs.length cc) (by rfl) R2.out.codes w2.heap.size (by rfl) rfl hx (.inr (.inr rfl)) ?_
      intro g' cp w4 hown hgrow hat
      have hn' : ¬ (Value.slice ca xs.length cc).ownBlock = some r := fun e => by
        obtain ⟨cur, hc⟩ := row_lt R2.out.codes e
        exact blk_ne hc R2.out.blk (by decide) rfl
      have hng : ¬ (Value.slice ca xs.length cc).ownBlock = some g := fun e => by
        obtain ⟨cur, hc⟩ := row_lt R2.out.codes e
        obtain ⟨cur', hc'⟩ := row_lt HROW.out (g := g) rfl
        exact blk_ne hc hc' (by decide) rfl
      have q0 : w4.cell? ⟨r, 2, none⟩ = some (.slice ca xs.length cc) := (hgrow.cell_far ⟨r, 2, none⟩ hr2 (fun e => hn' e.symm)).trans e2
      have q1 : w4.frozen? ⟨r, 2, none⟩ = false := (hgrow.frozen_far ⟨r, 2, none⟩ hr2 (fun e => hn' e.symm)).trans (blk_free R2.out.blk 2)
      have HR4 := hid (R2.out.cod (p := n0) (l := n1) (s := n2) (d := n3) hB2 hown hgrow hat)
      have K4 := hid (B2.out.trans (((Keep.grown (S := fun b => B ≤ b) hgrow (fun k hk => R2.out.clow k hk)).trans (Keep.set (S := fun b => B ≤ b) R2.out.low w4 2 (.slice (some ⟨g', 0, none⟩) (xs.length + 1) cp)) (fun _ _ h => h)).below hB2 (fun _ h => h)))
      have u0 : w4.cell? ⟨g, 0, none⟩ = some (.int .i64 n0) := (hgrow.cell_far ⟨g, 0, none⟩ hg (fun e => hng e.symm)).trans k0
      have u1 : w4.cell? ⟨g, 1, none⟩ = some (.int .i64 n1) := (hgrow.cell_far ⟨g, 1, none⟩ hg (fun e => hng e.symm)).trans k1
      have u2 : w4.cell? ⟨g, 2, none⟩ = some (.int .i64 n2) := (hgrow.cell_far ⟨g, 2, none⟩ hg (fun e => hng e.symm)).trans k2
      have u3 : w4.cell? ⟨g, 3, none⟩ = some (.int .i64 n3) := (hgrow.cell_far ⟨g, 3, none⟩ hg (fun e => hng e.symm)).trans k3
      clear hown hgrow hat hn' hng e2 k0 k1 k2 k3
      refine hK.out _ _ ?_ (fun _ => ?_)
      · (refine ⟨?_, ?_, ?_, ?_⟩ <;> (first | assumption | go_simp))
      clear hK K
      simp only [Act.put, List.setIfInBounds_toArray, List.set_cons_zero, List.set_cons_succ, List.getElem_toArray, List.getElem_cons_succ, List.getElem_cons_zero]
      refine tkk 20 ?_
      refine tkk 21 ?_
      refine rdy 22 (fun K hK => ?_)
      go_simp
      refine hK.out _ _ ?_ (fun _ => ?_)
      · (refine ⟨?_, ?_, ?_, ?_⟩ <;> (first | assumption | go_simp))
      clear hK K
      refine wpAnyH_done (by kernel_rfl) ?_ _
      go_wp2_with fail
      go_ret
      exact OT.out _ _ _ _ _ (by first | exact K4.out | exact K4.out.drew) N.out (by first | exact HR4.out | exact HR4.out.on ((Below.refl _ _).drew))

end Go.Proofs.YtnojlfdojmkonaaGreatDoor
