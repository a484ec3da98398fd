/- What the program's reader does with a line. -/
import Derived.Test.YtnojlfdojmkonaaGreatDoorJoint2
import Derived.Test.YtnojlfdojmkonaaGreatDoorAsMem
import Derived.Test.YtnojlfdojmkonaaGreatDoorTxtTaken
namespace Go.Proofs.YtnojlfdojmkonaaGreatDoor
set_option linter.unusedSimpArgs false
set_option maxRecDepth 100000
open Go.RowKit

theorem takeGo_short : ∀ (f : Nat) (l : List UInt8) (k : Nat) (acc : List UInt8), (takeGo f l k acc).1.length ≤ acc.length + f
  | 0, _, _, _ => by simp [takeGo]
  | f + 1, [], _, _ => by simp [takeGo]
  | f + 1, c :: r, k, acc => by
    rw [takeGo]
    split
    · simp
    · split
      · simp
      · have := takeGo_short f (List.drop (by assumption) (c :: r)) (k + (by assumption)) (acc ++ [(by assumption)])
        rename_i b n hb
        have := takeGo_short f (List.drop n (c :: r)) (k + n) (acc ++ [b])
        simp only [List.length_append, List.length_singleton] at this
        omega
theorem takeOut_short (l : List UInt8) : (takeOut l).1.length ≤ l.length := by
  unfold takeOut
  split
  · simp
  · split
    · rename_i c r _
      have := takeGo_short (r.length + 1) r 1 []
      simp at this ⊢
      omega
    · simp
/-- what a string's line says, if it may stand there -/
def polQ (q : List UInt8) : Prop := (takeOut q).2.2 = 0 ∧ quoted (takeOut q).1 = q
set_option maxHeartbeats 3200000 in
theorem pool_calls {B r : Nat} {P : Pg} {nv pv cv : Value} {xs : List Cv} (q : ByteArray) (w : World) (hB : B ≤ w.heap.size) (h : Hid (RdB B r P nv pv cv xs w)) (hq : q.size ≤ 1000000) (hl : P.pool.length ≤ 1000000) :
    Calls Tryz.prog 75 #[.pointer (some ⟨r, 0, none⟩), .string q] w fun e w' => ∃ b, e = .returned (.bool b) ∧ Below B w w' ∧ ((b = true ∧ polQ q.data.toList ∧ ∃ pv', RdB B r ⟨P.g, P.pool ++ [⟨(takeOut q.data.toList).1.toArray⟩], P.codes⟩ nv pv' cv xs w') ∨ (b = false ∧ ¬ polQ q.data.toList)) := by
  have TK := hid (take_calls q hq w)
  have hz := Lib.size_eq q
  have hsh := takeOut_short q.data.toList
  have PQ := hid (show polQ q.data.toList ↔ (takeOut q.data.toList).2.2 = 0 ∧ quoted (takeOut q.data.toList).1 = q.data.toList from Iff.rfl)
  have HTL := hid (show q.toList = q.data.toList from Lib.toList_data q)
  generalize polQ q.data.toList = PQ0 at *
  generalize takeOut q.data.toList = t at *
  obtain ⟨t, n, e0⟩ := t
  simp only at *
  have hts : (⟨t.toArray⟩ : ByteArray).size ≤ 1000000 := by
    have : (⟨t.toArray⟩ : ByteArray).size = t.length := by rw [Lib.size_eq]
    omega
  have QT := hid (fun W => quote_calls ⟨t.toArray⟩ hts W)
  clear hts hsh hz
  obtain ⟨pa, pc, rfl⟩ := row_shape h.out.pool
  go_enter Tryz.func75, Tryz.ntmps75
  go_wp2_with fail
  refine TK.out.mono ?_
  rintro e w2 ⟨rfl, b2⟩
  have B2 := hid b2
  clear b2
  by_cases he : e0 = 0
  · subst he
    have H2 := hid (h.out.on B2.out)
    go_wp2_with fail
    refine (QT.out w2).mono ?_
    rintro e w3 ⟨rfl, b3⟩
    have B3 := hid (B2.out.trans (b3.mono B2.out.size))
    have H3 := hid (H2.out.on b3)
    clear b3
    simp only [List.toList_toArray]
    by_cases hd : quoted t = q.data.toList
    · have hqq : (quoted t == q.toList) = true := by rw [HTL.out]; simpa using hd
      have HP := hid (PQ.out.2 ⟨(by first | rfl | trivial), hd⟩)
      have c1 : w3.cell? ⟨r, 1, none⟩ = some (.slice pa P.pool.length pc) := blk_cellZ H3.out.blk 1 rfl
      have hr := H3.out.rlt
      have hB3 := Nat.le_trans hB B3.out.size
      clear hd
      go_wp2_with (first | (at_builtin; go_loud (refine row_app elAs (by decide) (by decide) rfl _ _ rfl P.pool.length (P.pool.map Value.string) [.string ⟨t.toArray⟩] rfl (by intro u hu; simp at hu; subst hu; rfl) (.slice pa P.pool.length pc) (by rfl) H3.out.pool w3.heap.size (by rfl) rfl hl ?_); go_loud (intro g cp w4 hown hgrow hat; have hn : ¬ (Value.slice pa P.pool.length pc).ownBlock = some r := (fun e => (by obtain ⟨cur, hc⟩ := row_lt H3.out.pool e; exact blk_ne hc H3.out.blk (by decide) rfl)); have q0 : w4.cell? ⟨r, 1, none⟩ = some (.slice pa P.pool.length pc) := (hgrow.cell_far ⟨r, 1, none⟩ hr (fun e => hn e.symm)).trans c1; have q1 : w4.frozen? ⟨r, 1, none⟩ = false := (hgrow.frozen_far ⟨r, 1, none⟩ hr (fun e => hn e.symm)).trans (blk_free H3.out.blk 1); have HO := hid hown; have HG := hid hgrow; have HT := hid hat; clear hown hgrow hat hn)) | fail)
      go_ret
      have R := H3.out.str (s := ⟨t.toArray⟩) hB3 HO.out HG.out HT.out
      have K4 : Keep (fun b => B ≤ b) w3 (w4.setCell ⟨r, 1, none⟩ (.slice (some ⟨g, 0, none⟩) (P.pool.length + 1) cp)) := (Keep.grown (S := fun b => B ≤ b) HG.out (fun k hk => H3.out.plow k hk)).trans (Keep.set (S := fun b => B ≤ b) H3.out.low w4 1 _) (fun _ _ h => h)
      exact ⟨true, rfl, (B3.out.mono hB).trans (K4.below hB3 (fun _ h => h)), .inl ⟨rfl, HP.out, _, R⟩⟩
    · have hqq : (quoted t == q.toList) = false := by rw [HTL.out]; simpa using hd
      have HP := hid (show ¬ PQ0 from fun hp => hd (PQ.out.1 hp).2)
      clear hd
      go_wp2_with fail
      go_ret
      exact ⟨false, rfl, B3.out.mono hB, .inr ⟨rfl, HP.out⟩⟩
  · have hd : (e0 != 0) = true := by simpa using he
    have HP := hid (show ¬ PQ0 from fun hp => he (PQ.out.1 hp).1)
    clear he
    go_wp2_with fail
    go_ret
    exact ⟨false, rfl, B2.out.mono hB, .inr ⟨rfl, HP.out⟩⟩

/-! words -/
theorem ss_head {ss : List ByteArray} {l : List UInt8} (h : ss.map (·.data.toList) = wordsL l) : ∃ s r, ss = s :: r ∧ s.data.toList = (splitP 32 l).headD [] ∧ r.map (·.data.toList) = (wordsL l).tail := by
  have hp := (words_ne l).1
  have hh := words_head l
  cases ss with
  | nil => rw [← h] at hp; simp at hp
  | cons s r => exact ⟨s, r, rfl, by rw [← hh, ← h]; rfl, by rw [← h]; rfl⟩
theorem ss_short {ss : List ByteArray} {l : List UInt8} (h : ss.map (·.data.toList) = wordsL l) (hl : l.length ≤ 1000000) : ∀ s ∈ ss, s.size ≤ 1000000 := fun s hs => by
  have hm : s.data.toList ∈ wordsL l := by rw [← h]; exact List.mem_map.2 ⟨s, hs, rfl⟩
  have := words_short hm
  have hz := Lib.size_eq s
  omega
/-- the words but for the first one -/
theorem words_tail (g n c : Nat) (hn : 1 ≤ n) (hc : ¬ c = 1) (w : World) : (Instr.sliceAt 22 (.slice (some ⟨g, 0, none⟩) n c) (some (.int .i64 1)) none none).run Tryz.prog w = .ok (.slice (some ⟨g, 1, none⟩) (n - 1) (c - 1)) w := by
  have hu : Tryz.prog.underlying 22 = some (.slice (Tryz.prog.elem 22)) := by kernel_rfl
  have hz : (sizeOf (Tryz.prog.elem 22)).run Tryz.prog w = .ok 1 w := by kernel_rfl
  rw [run_sliceAt_slice _ _ _ _ _ _ hu, run_slice_l _ _ _ _ _ hu .i64 1 (by decide) (by omega), hz]
  simp only [Result.andThen, sliced]
  rw [if_neg (by simpa using hc)]
  rfl
theorem tail_in {g : Nat} {w : World} {s : ByteArray} {r : List ByteArray} {cs : Array Value} (hb : Blk g 9 cs w) (hc : ∀ (i : Nat) x, (s :: r)[i]? = some x → cs[i]? = some (.string x)) (n c : Nat) (hn : n = r.length) : StrO w (.slice (some ⟨g, 1, none⟩) n c) r := by
  subst hn
  exact .inr ⟨g, 1, c, rfl, blk_lt hb, fun i x hx => by
    rw [blk_cell hb, Nat.add_comm]
    exact hc (i + 1) x (by simpa using hx)⟩
set_option maxHeartbeats 6400000 in
theorem code_calls {B r g : Nat} {P : Pg} {nv pv cv v : Value} {xs : List Cv} {l : List UInt8} {ss : List ByteArray} (w : World) (hL : Hid (LibW B w)) (h : Hid (RdB B r P nv pv cv xs w)) (hW : Hid (WordsIn g w v l ss)) (hs : Hid (ss.map (·.data.toList) = wordsL l)) (hl : l.length ≤ 1000000) (hx : xs.length ≤ 1000000) :
    Calls Tryz.prog 77 #[.pointer (some ⟨r, 0, none⟩), v] w fun e w' => ∃ b, e = .returned (.bool b) ∧ Below B w w' ∧ ((b = true ∧ ∃ m, numsP l codW 4 = some m ∧ ∃ cv' xs', RdB B r ⟨P.g, P.pool, P.codes ++ [⟨m.headD 0, m.tail.headD 0, m.tail.tail.headD 0, m.tail.tail.tail.headD 0, []⟩]⟩ nv pv cv' xs' w') ∨ (b = false ∧ numsP l codW 4 = none ∧ Below w.heap.size w w')) := by
  obtain ⟨cs, rfl, hwb, hwl, hw1, hwc⟩ := hW.out
  obtain ⟨s0, rs, rfl, hs0, hrs⟩ := ss_head hs.out
  have NW := hid (nums_words (s := l) (first := codW) (many := 4) (by decide))
  have WH := hid (words_head l)
  have SZ := hid (ss_short hs.out hl)
  have hBw := hL.out.le
  have HS0 := hid hs0
  have HRS := hid hrs
  have HW1 := hid hw1
  have HWC := hid hwc
  have HWB := hid hwb
  have HTL := hid (show s0.toList = s0.data.toList from Lib.toList_data s0)
  have hgw := blk_lt hwb
  have c0 : w.cell? ⟨g, 0, none⟩ = some (.string s0) := by rw [blk_cell hwb]; exact hwc 0 s0 rfl
  have AL := hid (box_below w (.cells #[.int .i64 0, .int .i64 0, .int .i64 0, .int .i64 0, .slice none 0 0] 45))
  have BL := hid (blk_new w 45 #[.int .i64 0, .int .i64 0, .int .i64 0, .int .i64 0, .slice none 0 0])
  clear hs0 hrs hw1 hwc hwb hW hwl
  by_cases hc : s0.data.toList = codW
  · have hq : (s0.toList == [99, 111, 100, 101]) = true := by rw [HTL.out, hc]; rfl
    have hcs : ¬ cs.size = 1 := fun h1 => by
      have := HW1.out h1
      rw [this] at HS0
      have h2 := HS0.out
      rw [hc] at h2
      cases h2
    have hsl := fun W => words_tail g (rs.length + 1) cs.size (by omega) hcs W
    have HC := hid hc
    clear hc hcs
    simp only [List.length_cons, Nat.add_sub_cancel] at hsl ⊢
    go_enter Tryz.func77, Tryz.ntmps77
    go_wp2_with fail
    generalize hW1 : w.alloc (.cells #[.int .i64 0, .int .i64 0, .int .i64 0, .int .i64 0, .slice none 0 0] 45) = w1 at *
    have hsz1 : w1.heap.size = w.heap.size + 1 := by rw [← hW1]; simp
    have HSZ1 := hid hsz1
    have q2 := box_below w1 (.cells #[.pointer (some ⟨w.heap.size, 0, none⟩), .pointer (some ⟨w.heap.size, 1, none⟩), .pointer (some ⟨w.heap.size, 2, none⟩), .pointer (some ⟨w.heap.size, 3, none⟩)] 98)
    have b2 := blk_new w1 98 #[.pointer (some ⟨w.heap.size, 0, none⟩), .pointer (some ⟨w.heap.size, 1, none⟩), .pointer (some ⟨w.heap.size, 2, none⟩), .pointer (some ⟨w.heap.size, 3, none⟩)]
    have hsz2 : (w1.alloc (.cells #[.pointer (some ⟨w.heap.size, 0, none⟩), .pointer (some ⟨w.heap.size, 1, none⟩), .pointer (some ⟨w.heap.size, 2, none⟩), .pointer (some ⟨w.heap.size, 3, none⟩)] 98)).heap.size = w1.heap.size + 1 := by simp
    generalize hW2 : w1.alloc (.cells #[.pointer (some ⟨w.heap.size, 0, none⟩), .pointer (some ⟨w.heap.size, 1, none⟩), .pointer (some ⟨w.heap.size, 2, none⟩), .pointer (some ⟨w.heap.size, 3, none⟩)] 98) = w2 at *
    have L2 := hid (AL.out.trans (q2.mono (show w.heap.size ≤ w1.heap.size by omega)))
    have LW2 := hid (hL.out.on (L2.out.mono hBw))
    have ST2 := hid (tail_in (blk_on HWB.out L2.out) HWC.out rs.length (cs.size - 1) rfl)
    have PL2 := hid (show Plc w2 (.slice (some ⟨w.heap.size + 1, 0, none⟩) 4 4) w.heap.size [0, 1, 2, 3] from ⟨w1.heap.size, 4, by rw [hsz1]; rfl, blk_lt b2, by omega, fun i o ho => by
      rw [blk_cell b2]
      match i, ho with
      | 0, ho => simp at ho; subst ho; rfl
      | 1, ho => simp at ho; subst ho; rfl
      | 2, ho => simp at ho; subst ho; rfl
      | 3, ho => simp at ho; subst ho; rfl
      | i + 4, ho => simp at ho⟩)
    have BL2 := hid (blk_on BL.out q2)
    have hrl : rs.length ≤ 5 := by
      have h1 := (words_ne l).2
      have h2 := congrArg List.length hs.out
      simp only [List.length_map, List.length_cons] at h2
      omega
    have HRL := hid hrl
    clear hW1 hW2 hsz1 q2 b2 hsz2 hsl c0 hrl
    refine (fill_calls rs [0, 1, 2, 3] w.heap.size 45 _ _ _ w2 LW2 ST2 PL2 BL2 hBw (hid (fun ao n c e a ha => by
      injection e with e1
      rw [← e1] at ha
      injection ha with ha
      rw [← ha]
      show g ≠ w.heap.size
      omega)) (hid (fun o ho => by
      simp at ho
      rcases ho with rfl | rfl | rfl | rfl <;> exact ⟨0, rfl⟩)) (hid (fun s hs' => SZ.out s (by simp [hs']))) (by have := HRL.out; omega)).mono ?_
    rintro e w3 ⟨b, rfl, hk, ht, hf⟩
    have L3 := hid (L2.out.trans (hk.below (Nat.le_trans (Nat.le_refl _) L2.out.size) (fun k hk => by rw [hk]; exact Nat.le_refl _)))
    have HT := hid ht
    have HF := hid hf
    clear hk ht hf
    cases b with
    | false =>
      have HN := hid (show numsP l codW 4 = none by
        rw [NW.out]
        split
        · rename_i hh
          rcases HF.out rfl with h1 | h1
          · exfalso
            have h2 := hh.2
            rw [← HRS.out, List.length_map] at h2
            exact h1 h2
          · rw [← HRS.out]; exact h1
        · rfl)
      clear HT HF
      go_wp2_with fail
      go_ret
      exact ⟨false, rfl, L3.out.mono hBw, .inr ⟨rfl, HN.out, L3.out⟩⟩
    | true =>
      obtain ⟨ns, hl4, hns, hbk⟩ := HT.out rfl
      have hln := allN_len hns
      rw [List.length_map, hl4] at hln
      obtain ⟨n0, n1, n2, n3, rfl⟩ : ∃ n0 n1 n2 n3, ns = [n0, n1, n2, n3] := by
        match ns, hln with
        | [a, b, c, d], _ => exact ⟨a, b, c, d, rfl⟩
      have HN := hid (show numsP l codW 4 = some [n0, n1, n2, n3] by
        rw [NW.out, if_pos ⟨by rw [WH.out, ← HS0.out]; exact HC.out, by rw [← HRS.out, List.length_map]; exact hl4⟩, ← HRS.out]
        exact hns)
      have CB := hid (show Blk w.heap.size 45 #[.int .i64 n0, .int .i64 n1, .int .i64 n2, .int .i64 n3, .slice none 0 0] w3 from hbk)
      have R3 := hid (h.out.on L3.out)
      have hB3 := Nat.le_trans hBw L3.out.size
      clear hl4 hns hbk hln HT HF
      obtain ⟨ca, cc, hcv⟩ := row_shape R3.out.codes
      subst hcv
      have e2 : w3.cell? ⟨r, 2, none⟩ = some (.slice ca xs.length cc) := blk_cellZ R3.out.blk 2 rfl
      have k0 : w3.cell? ⟨w.heap.size, 0, none⟩ = some (.int .i64 n0) := blk_cellZ CB.out 0 rfl
      have k1 : w3.cell? ⟨w.heap.size, 1, none⟩ = some (.int .i64 n1) := blk_cellZ CB.out 1 rfl
      have k2 : w3.cell? ⟨w.heap.size, 2, none⟩ = some (.int .i64 n2) := blk_cellZ CB.out 2 rfl
      have k3 : w3.cell? ⟨w.heap.size, 3, none⟩ = some (.int .i64 n3) := blk_cellZ CB.out 3 rfl
      have k4 : w3.cell? ⟨w.heap.size, 4, none⟩ = some (.slice none 0 0) := blk_cellZ CB.out 4 rfl
      have hr3 := R3.out.rlt
      have hc3 := blk_lt CB.out
      have hrw : ¬ r = w.heap.size := fun e => absurd h.out.rlt (by omega)
      have hrw2 : ¬ w.heap.size = r := fun e => hrw e.symm
      go_upto_region 4 with fail
      refine wp_region_held_drew (S := fun aZ => aZ.cell? ⟨w.heap.size, 0, none⟩ = some (.int .i64 n0) ∧ aZ.cell? ⟨w.heap.size, 1, none⟩ = some (.int .i64 n1) ∧ aZ.cell? ⟨w.heap.size, 2, none⟩ = some (.int .i64 n2) ∧ aZ.cell? ⟨w.heap.size, 3, none⟩ = some (.int .i64 n3) ∧ aZ.cell? ⟨w.heap.size, 4, none⟩ = some (.slice none 0 0)) (by kernel_rfl) ?_ (fun hHeld => ?_)
      · (refine ⟨?_, ?_, ?_, ?_, ?_⟩ <;> go_simp)
      refine tkk 0 ?_
      refine tkk 1 ?_
      refine tkk 2 ?_
      refine tkk 3 ?_
      refine tkk 4 ?_
      refine tkk 6 ?_
      refine wpAnyH_ready (rs := [5, 7]) (by kernel_rfl) (by simp) ?_
      refine AllReadyH.cons rfl (fun K hK => ?_) (AllReadyH.cons rfl (fun K hK => ?_) AllReadyH.nil)
      go_simp
      refine hK.out _ _ ?_ (fun _ => ?_)
      · (refine ⟨?_, ?_, ?_, ?_, ?_⟩ <;> (first | assumption | go_simp))
      clear hK K
      refine rdy 7 (fun K hK => ?_)
      go_simp
      refine hK.out _ _ ?_ (fun _ => ?_)
      · (refine ⟨?_, ?_, ?_, ?_, ?_⟩ <;> (first | assumption | go_simp))
      clear hK K
      rotate_left 1
      go_simp
      refine hK.out _ _ ?_ (fun _ => ?_)
      · (refine ⟨?_, ?_, ?_, ?_, ?_⟩ <;> (first | assumption | go_simp))
      clear hK K
      refine rdy 5 (fun K hK => ?_)
      go_simp
      refine hK.out _ _ ?_ (fun _ => ?_)
      · (refine ⟨?_, ?_, ?_, ?_, ?_⟩ <;> (first | assumption | go_simp))
      clear hK K
      rotate_left 1
      all_goals
        refine rdy 8 (fun K hK => ?_)
        refine row_app_step elCd (by decide) (by decide) rfl _ _ rfl xs.length (cdC xs) [.int .i64 n0, .int .i64 n1, .int .i64 n2, .int .i64 n3, .slice none 0 0] rfl (by intro u hu; simp at hu; rcases hu with rfl | rfl | rfl | rfl | rfl <;> rfl) (.slice ca xs.length cc) (by rfl) R3.out.codes w3.heap.size (by rfl) rfl hx (.inr (.inr rfl)) ?_
        intro g' cp w4 hown hgrow hat
        have hn : ¬ (Value.slice ca xs.length cc).ownBlock = some r := fun e => by
          obtain ⟨cur, hc⟩ := row_lt R3.out.codes e
          exact blk_ne hc R3.out.blk (by decide) rfl
        have K34 := Keep.grown (S := fun b => (Value.slice ca xs.length cc).ownBlock = some b) hgrow (fun k hk => hk)
        have CB4 : Blk w.heap.size 45 #[.int .i64 n0, .int .i64 n1, .int .i64 n2, .int .i64 n3, .slice none 0 0] w4 := (K34.block w.heap.size hc3 (fun e => by
          obtain ⟨cur, hc⟩ := row_lt h.out.codes e
          exact absurd (blk_lt hc) (Nat.lt_irrefl _))).trans CB.out
        have q0 : w4.cell? ⟨r, 2, none⟩ = some (.slice ca xs.length cc) := (hgrow.cell_far ⟨r, 2, none⟩ hr3 (fun e => hn e.symm)).trans e2
        have q1 : w4.frozen? ⟨r, 2, none⟩ = false := (hgrow.frozen_far ⟨r, 2, none⟩ hr3 (fun e => hn e.symm)).trans (blk_free R3.out.blk 2)
        have HR4 := hid (R3.out.cod (p := n0) (l := n1) (s := n2) (d := n3) hB3 hown hgrow hat)
        have K4 := hid ((L3.out.mono hBw).trans (((Keep.grown (S := fun b => B ≤ b) hgrow (fun k hk => R3.out.clow k hk)).trans (Keep.set (S := fun b => B ≤ b) R3.out.low w4 2 (.slice (some ⟨g', 0, none⟩) (xs.length + 1) cp)) (fun _ _ h => h)).below hB3 (fun _ h => h)))
        have u0 : w4.cell? ⟨w.heap.size, 0, none⟩ = some (.int .i64 n0) := blk_cellZ CB4 0 rfl
        have u1 : w4.cell? ⟨w.heap.size, 1, none⟩ = some (.int .i64 n1) := blk_cellZ CB4 1 rfl
        have u2 : w4.cell? ⟨w.heap.size, 2, none⟩ = some (.int .i64 n2) := blk_cellZ CB4 2 rfl
        have u3 : w4.cell? ⟨w.heap.size, 3, none⟩ = some (.int .i64 n3) := blk_cellZ CB4 3 rfl
        have u4 : w4.cell? ⟨w.heap.size, 4, none⟩ = some (.slice none 0 0) := blk_cellZ CB4 4 rfl
        clear hown hgrow hat hn K34 CB4 e2 k0 k1 k2 k3 k4
        refine hK.out _ _ ?_ (fun _ => ?_)
        · (refine ⟨?_, ?_, ?_, ?_, ?_⟩ <;> (first | assumption | go_simp))
        clear hK K
        simp only [Act.put, List.setIfInBounds_toArray, List.set_cons_zero, List.set_cons_succ, List.getElem_toArray, List.getElem_cons_succ, List.getElem_cons_zero]
        refine tkk 9 ?_
        refine tkk 10 ?_
        refine tkk 11 ?_
        refine rdy 12 (fun K hK => ?_)
        go_simp
        refine hK.out _ _ ?_ (fun _ => ?_)
        · (refine ⟨?_, ?_, ?_, ?_, ?_⟩ <;> (first | assumption | go_simp))
        clear hK K
        refine wpAnyH_done (by kernel_rfl) ?_ _
        go_wp2_with fail
        go_ret
        exact ⟨true, rfl, by first | exact K4.out | exact K4.out.drew, .inl ⟨rfl, [n0, n1, n2, n3], HN.out, _, _, by first | exact HR4.out | exact HR4.out.on ((Below.refl _ _).drew)⟩⟩
  · have hq : (s0.toList == [99, 111, 100, 101]) = false := by rw [HTL.out]; simpa [codW] using hc
    have HN := hid (show numsP l codW 4 = none by
      rw [NW.out, if_neg (fun hh => hc (by rw [HS0.out, ← WH.out]; exact hh.1))])
    clear hc
    go_enter Tryz.func77, Tryz.ntmps77
    go_wp2_with fail
    go_ret
    exact ⟨false, rfl, AL.out.mono hBw, .inr ⟨rfl, HN.out, AL.out⟩⟩

end Go.Proofs.YtnojlfdojmkonaaGreatDoor
