/- What the document's Read answers. -/
import Derived.Test.YtnojlfdojmkonaaGreatDoorDrI
import Derived.Test.YtnojlfdojmkonaaGreatDoorAsRd5
import Derived.Test.YtnojlfdojmkonaaGreatDoorCdRCk
namespace Go.Proofs.YtnojlfdojmkonaaGreatDoor
set_option linter.unusedSimpArgs false
set_option maxRecDepth 100000
open Go.RowKit

theorem dtake_calls {B r n : Nat} {P : Pg} {pv cv : Value} {xs : List Cv} (s : ByteArray) (w : World) (hB : B ≤ w.heap.size) (h : Hid (DrB B r P pv cv xs w)) (hs : s.size ≤ 900000) (hF : Hid (FewK P 900000)) :
    Calls Tryz.prog 25 #[.pointer (some ⟨r, 0, none⟩), .string s, .int .i64 (n : Int)] w (TkOut B r n P s.data.toList w) := by
  have hx : xs.length ≤ 1000000 := by
    have := congrArg List.length h.out.fst
    rw [List.length_map] at this
    have := hF.out.codes
    omega
  by_cases hn : n = 0
  · subst hn
    exact dtake_zero s w hB h hs
  · by_cases hc : P.codes = []
    · by_cases hl : 5 < s.size
      · by_cases h5 : s.data.toList.take 5 = polW
        · exact dtake_pool s w hB h hs (hid hn) (hid hc) (hid h5) hl (Nat.le_trans hF.out.pool (by decide))
        · exact dtake_other s w hB h hs (hid hn) (hid hc) hl (hid h5) hx
      · exact dtake_short s w hB h hs (hid hn) (hid hc) (by omega) hx
    · refine dtake_ins s w hB h hs (hid hn) (hid hc) (hid fun x hx => ?_) hx
      have : x.1 ∈ P.codes := by rw [← h.out.fst]; exact List.mem_map.2 ⟨x, hx, rfl⟩
      exact Nat.le_trans (hF.out.ins _ this) (by decide)
theorem drB_zero {w : World} {B r : Nat} (hB : B ≤ r) (h : Blk r 25 #[.int .i64 0, .slice none 0 0, .slice none 0 0] w) : DrB B r pg0 (.slice none 0 0) (.slice none 0 0) [] w :=
  ⟨hB, h, World.ownsRow_nil _ _ _ _, World.ownsRow_nil _ _ _ _, fun _ h => (nomatch h), rfl, fun g h => by simp [Value.ownBlock] at h, fun g h => by simp [Value.ownBlock] at h, fun _ h => (nomatch h), fun ys x e => by simp at e⟩
theorem extract_mid (s : ByteArray) (a k : Nat) : (s.extract a k).data.toList = (s.data.toList.drop a).take (k - a) := by
  rw [ByteArray.data_extract, Array.toList_extract, List.extract_eq_take_drop]
theorem clean_more {l : List UInt8} {a k : Nat} (h1 : a ≤ k) (hk : k < l.length) (h : ∀ x ∈ (l.drop a).take (k - a), x ≠ 10) (hx : l[k] ≠ 10) : ∀ x ∈ (l.drop a).take (k + 1 - a), x ≠ 10 := by
  intro x hm
  rw [show k + 1 - a = (k - a) + 1 by omega, List.take_succ_eq_append_getElem (by rw [List.length_drop]; omega)] at hm
  rcases List.mem_append.1 hm with hm | hm
  · exact h x hm
  · rw [List.mem_singleton.1 hm, List.getElem_drop]
    simpa [show a + (k - a) = k by omega] using hx
set_option maxHeartbeats 6400000 in
theorem dread_calls (s : ByteArray) (w : World) (hs : s.size ≤ 900000) :
    Calls Tryz.prog 14 #[.string s] w fun e w' => RdOut s.data.toList e w' ∧ Below w.heap.size w w' := by
  have HS := hid hs
  have AL := hid (box_below w (.cells #[.int .i64 0, .slice none 0 0, .slice none 0 0] 25))
  have BL := hid (blk_new w 25 #[.int .i64 0, .slice none 0 0, .slice none 0 0])
  go_enter Tryz.func14, Tryz.ntmps14
  go_wp2_with fail
  have hsz1 : (w.alloc (.cells #[.int .i64 0, .slice none 0 0, .slice none 0 0] 25)).heap.size = w.heap.size + 1 := by simp
  generalize hW1 : w.alloc (.cells #[.int .i64 0, .slice none 0 0, .slice none 0 0] 25) = w1 at *
  clear hW1
  have Q2 := hid (box_below w1 (.cells #[.int .i64 0, .slice none 0 0, .slice none 0 0] 25))
  have D2 := hid (drB_zero (B := w.heap.size + 1) (Nat.le_refl _) (show Blk (w.heap.size + 1) 25 #[.int .i64 0, .slice none 0 0, .slice none 0 0] (w1.alloc (.cells #[.int .i64 0, .slice none 0 0, .slice none 0 0] 25)) by rw [← hsz1]; exact blk_new w1 _ _))
  have BL1 := hid (fun W (q : Below (w.heap.size + 1) w1 W) => (show Blk w.heap.size 25 #[.int .i64 0, .slice none 0 0, .slice none 0 0] W from blk_on BL.out (by rw [hsz1]; exact q)))
  have LOW := hid (fun W (q : Below (w.heap.size + 1) w1 W) => (show Below w.heap.size w W from AL.out.trans (q.mono (Nat.le_succ _))))
  rw [hsz1] at Q2
  have hne : ¬ w.heap.size + 1 = w.heap.size := by omega
  have hne2 : ¬ w.heap.size = w.heap.size + 1 := by omega
  have HLE := hid (show w.heap.size + 1 ≤ w1.heap.size by omega)
  clear hsz1
  go_loopw [6, 7, 8] (fun nv av kv wr => ∃ (n a k : Nat), nv = .int .i64 n ∧ av = .int .i64 a ∧ kv = .int .i64 k ∧ n ≤ a ∧ a ≤ k ∧ k ≤ s.size ∧ Hid (∃ P pv cv xs, (∀ x ∈ (s.data.toList.drop a).take (k - a), x ≠ 10) ∧ readG (s.data.toList.drop a) P n = readL s.data.toList ∧ FewK P n ∧ DrB (w.heap.size + 1) (w.heap.size + 1) P pv cv xs wr ∧ Below (w.heap.size + 1) w1 wr)) (fun _ _ kv _ => s.size - (intOf kv).toNat)
  case atStart => exact ⟨0, 0, 0, rfl, rfl, rfl, Nat.le_refl _, Nat.le_refl _, Nat.zero_le _, hid ⟨pg0, _, _, [], by simp, by rw [List.drop_zero]; exact readG_zero _, fewK_zero, D2.out, Q2.out⟩⟩
  case round =>
    clear D2 Q2
    obtain ⟨n, a, k, rfl, rfl, rfl, hna, hak, hks, hR⟩ := hrel
    rename World => wr
    obtain ⟨P, pv, cv, xs, hC, hG, hF, hD, hL⟩ := hR.out
    have HC := hid hC
    have HG := hid hG
    have HF := hid hF
    have D := hid hD
    have L := hid hL
    have hBr : w.heap.size + 1 ≤ wr.heap.size := Nat.le_trans HLE.out hL.size
    have R0 := hid (BL1.out wr hL)
    clear hC hG hF hD hL hR
    by_cases hkl : k < s.size
    · have hz := Lib.size_eq s
      have hx := hid (show s[k]'hkl = s.data.toList[k]'(by omega) by simp [ByteArray.getElem_eq_getElem_data])
      by_cases h10 : s[k]'hkl = 10
      · have hq : (((s[k]'hkl).toNat : Int) == 10) = true := by rw [h10]; rfl
        have EX := hid (extract_mid s a k)
        have HSX := hid (show (s.extract a k).size ≤ 900000 by
          have h1 := Lib.size_eq (s.extract a k)
          rw [EX.out, List.length_take, List.length_drop] at h1
          omega)
        have HGL := hid (show (match takeP P n ((s.data.toList.drop a).take (k - a)) with | none => Rr.bad (n + 1) | some Q => readG (s.data.toList.drop (k + 1)) Q (n + 1)) = readL s.data.toList from by
          have h := HG.out
          rw [drop_take_at hak (show k < s.data.toList.length by omega), ← hx.out, h10, readG_line HC.out] at h
          exact h)
        have HSL := hid (show ((s.data.toList.drop a).take (k - a)).length ≤ 1000000 by rw [List.length_take, List.length_drop]; have := HS.out; omega)
        clear hx hz h10
        go_wp2_with fail
        have CALL := dtake_calls (n := n) (s.extract a k) wr hBr D HSX.out (hid ⟨Nat.le_trans HF.out.pool (by omega), Nat.le_trans HF.out.codes (by omega), fun c hc => Nat.le_trans (HF.out.ins c hc) (by omega), HF.out.strs⟩)
        rw [EX.out] at CALL
        refine CALL.mono ?_
        rintro e w3 ⟨b, rfl, b3, hb⟩
        have L3 := hid (L.out.trans b3)
        have HB := hid hb
        clear b3 hb CALL
        cases b with
        | false =>
          have HI := hid (show ReadIs s.data.toList pg0 ((n : Int) + 1) 11 from by
            rcases HB.out with ⟨h, _⟩ | ⟨_, h⟩
            · cases h
            · have h2 := HGL.out
              rw [h] at h2
              have := readIs_bad h2.symm
              push_cast at this
              exact this)
          have R3 := hid (BL1.out w3 L3.out)
          have LL := hid (LOW.out w3 L3.out)
          have c0 : w3.cell? ⟨w.heap.size, 0, none⟩ = some (.int .i64 0) := blk_cellZ R3.out 0 rfl
          have c1 : w3.cell? ⟨w.heap.size, 1, none⟩ = some (.slice none 0 0) := blk_cellZ R3.out 1 rfl
          have c2 : w3.cell? ⟨w.heap.size, 2, none⟩ = some (.slice none 0 0) := blk_cellZ R3.out 2 rfl
          have f0 := blk_free R3.out 0
          have f1 := blk_free R3.out 1
          have f2 := blk_free R3.out 2
          clear HB
          go_wp2_with fail
          refine bodyPost_ret (results_c2 rfl _ _ _ rfl (load_prog (g := 0) (pv := .slice none 0 0) (cv := .slice none 0 0) (blk_set (blk_set (blk_set R3.out 0 _) 1 _) 2 _))) rfl ?_
          exact ⟨⟨pg0, _, _, _, _, rfl, HI.out, pgIn_zero _⟩, ((LL.out.setCell (p := ⟨w.heap.size, 0, none⟩) (Nat.le_refl _) _).setCell (p := ⟨w.heap.size, 1, none⟩) (Nat.le_refl _) _).setCell (p := ⟨w.heap.size, 2, none⟩) (Nat.le_refl _) _⟩
        | true =>
          obtain ⟨Q, pv', cv', xs', hQ, hDQ⟩ : ∃ Q pv cv xs, takeP P n ((s.data.toList.drop a).take (k - a)) = some Q ∧ DrB (w.heap.size + 1) (w.heap.size + 1) Q pv cv xs w3 := by
            rcases HB.out with ⟨_, h⟩ | ⟨h, _⟩
            · exact h
            · cases h
          have HG2 := hid (show readG (s.data.toList.drop (k + 1)) Q (n + 1) = readL s.data.toList from by
            have h := HGL.out
            rw [hQ] at h
            exact h)
          have HF2 := hid (fewK_take HF.out HSL.out hQ)
          have HDQ := hid hDQ
          clear HB hQ hDQ
          go_wp2_with fail
          exact ⟨⟨n + 1, k + 1, k + 1, by simp, by simp, by simp, by omega, Nat.le_refl _, by omega, hid ⟨Q, _, _, _, by simp, HG2.out, HF2.out, HDQ.out, L3.out⟩⟩, by simp [intOf]; omega⟩
      · have hq : (((s[k]'hkl).toNat : Int) == 10) = false := by
          refine beq_eq_false_iff_ne.2 fun h => h10 (UInt8.toNat_inj.1 ?_)
          have : ((s[k]'hkl).toNat : Int) = (10 : Nat) := h
          exact Int.ofNat.inj this
        have HC2 := hid (clean_more hak (show k < s.data.toList.length by omega) HC.out (by rw [← hx.out]; exact h10))
        clear hx hz
        go_wp2_with fail
        exact ⟨⟨n, a, k + 1, rfl, rfl, by simp, hna, by omega, by omega, hid ⟨P, _, _, _, HC2.out, HG.out, HF.out, D.out, L.out⟩⟩, by simp [intOf]; omega⟩
    · have hke : k = s.size := by omega
      subst hke
      have HCL := hid (show ∀ x ∈ s.data.toList.drop a, x ≠ 10 from by
        have h := HC.out
        rw [List.take_of_length_le (by rw [List.length_drop, ← Lib.size_eq s]; exact Nat.le_refl _)] at h
        exact h)
      have LL := hid (LOW.out wr L.out)
      by_cases hat : a < s.size
      · have HI := hid (show ReadIs s.data.toList pg0 ((n : Int) + 1) 11 from by
          have h := HG.out
          rw [readG_cut HCL.out (fun e => by
            have := congrArg List.length e
            rw [List.length_drop, ← Lib.size_eq s] at this
            simp at this
            omega)] at h
          have := readIs_bad h.symm
          push_cast at this
          exact this)
        have c0 : wr.cell? ⟨w.heap.size, 0, none⟩ = some (.int .i64 0) := blk_cellZ R0.out 0 rfl
        have c1 : wr.cell? ⟨w.heap.size, 1, none⟩ = some (.slice none 0 0) := blk_cellZ R0.out 1 rfl
        have c2 : wr.cell? ⟨w.heap.size, 2, none⟩ = some (.slice none 0 0) := blk_cellZ R0.out 2 rfl
        have f0 := blk_free R0.out 0
        have f1 := blk_free R0.out 1
        have f2 := blk_free R0.out 2
        clear hkl
        go_wp2_with fail
        refine bodyPost_ret (results_c2 rfl _ _ _ rfl (load_prog (g := 0) (pv := .slice none 0 0) (cv := .slice none 0 0) (blk_set (blk_set (blk_set R0.out 0 _) 1 _) 2 _))) rfl ?_
        exact ⟨⟨pg0, _, _, _, _, rfl, HI.out, pgIn_zero _⟩, ((LL.out.setCell (p := ⟨w.heap.size, 0, none⟩) (Nat.le_refl _) _).setCell (p := ⟨w.heap.size, 1, none⟩) (Nat.le_refl _) _).setCell (p := ⟨w.heap.size, 2, none⟩) (Nat.le_refl _) _⟩
      · have HGE := hid (show (if P.codes = [] then Rr.bad (n + 1) else .got P) = readL s.data.toList from by
          have h := HG.out
          rw [List.drop_of_length_le (by rw [← Lib.size_eq s]; omega), readG_end] at h
          exact h)
        have hxl := congrArg List.length D.out.fst
        rw [List.length_map] at hxl
        obtain ⟨pa, pc, hpv⟩ := row_shape D.out.pool
        obtain ⟨ca, cc, hcv⟩ := row_shape D.out.codes
        rw [hxl] at hcv
        subst hpv hcv
        have p0 : wr.cell? ⟨w.heap.size + 1, 0, none⟩ = some (.int .i64 P.g) := blk_cellZ D.out.blk 0 rfl
        have p1 : wr.cell? ⟨w.heap.size + 1, 1, none⟩ = some (.slice pa P.pool.length pc) := blk_cellZ D.out.blk 1 rfl
        have p2 : wr.cell? ⟨w.heap.size + 1, 2, none⟩ = some (.slice ca P.codes.length cc) := blk_cellZ D.out.blk 2 rfl
        by_cases hce : P.codes = []
        · have HI := hid (show ReadIs s.data.toList pg0 ((n : Int) + 1) 11 from by
            have h := HGE.out
            rw [if_pos hce] at h
            have := readIs_bad h.symm
            push_cast at this
            exact this)
          have hz0 : ((P.codes.length : Int) == 0) = true := by rw [hce]; rfl
          have c0 : wr.cell? ⟨w.heap.size, 0, none⟩ = some (.int .i64 0) := blk_cellZ R0.out 0 rfl
          have c1 : wr.cell? ⟨w.heap.size, 1, none⟩ = some (.slice none 0 0) := blk_cellZ R0.out 1 rfl
          have c2 : wr.cell? ⟨w.heap.size, 2, none⟩ = some (.slice none 0 0) := blk_cellZ R0.out 2 rfl
          have f0 := blk_free R0.out 0
          have f1 := blk_free R0.out 1
          have f2 := blk_free R0.out 2
          clear hkl hxl hce
          go_wp2_with fail
          refine bodyPost_ret (results_c2 rfl _ _ _ rfl (load_prog (g := 0) (pv := .slice none 0 0) (cv := .slice none 0 0) (blk_set (blk_set (blk_set R0.out 0 _) 1 _) 2 _))) rfl ?_
          exact ⟨⟨pg0, _, _, _, _, rfl, HI.out, pgIn_zero _⟩, ((LL.out.setCell (p := ⟨w.heap.size, 0, none⟩) (Nat.le_refl _) _).setCell (p := ⟨w.heap.size, 1, none⟩) (Nat.le_refl _) _).setCell (p := ⟨w.heap.size, 2, none⟩) (Nat.le_refl _) _⟩
        · have HRL := hid (show readL s.data.toList = .got P from by
            have h := HGE.out
            rw [if_neg hce] at h
            exact h.symm)
          have hz0 : ((P.codes.length : Int) == 0) = false := beq_eq_false_iff_ne.2 (by have := List.length_pos_iff.2 hce; omega)
          have hPG := D.out.pg (Nat.le_trans HF.out.pool (by omega)) (Nat.le_trans HF.out.codes (by omega)) (fun c hc => Nat.le_trans (HF.out.ins c hc) (by omega)) (fun s hs => Nat.le_trans (HF.out.strs s hs) (by decide))
          have CK := hid (dcheck_calls wr.heap.size P _ _ wr (Nat.le_refl _) hPG)
          simp only [pgV] at CK
          have IOK := hid (fun hc => readIs_ok (Q := P) HRL.out hc)
          have INO := hid (fun hc => readIs_no (Q := P) HRL.out hc)
          have HNB := hid (show n ≤ 1000000 by have := HS.out; omega)
          clear hkl hxl hce hPG
          go_wp2_with fail
          refine CK.out.mono ?_
          rintro e w4 ⟨⟨er, rfl, her⟩, b4⟩
          have L4 := hid (LL.out.trans (b4.mono LL.out.size))
          have R04 := hid (blk_on R0.out b4)
          have D4 := hid (D.out.on b4)
          have HER := hid her
          have q0 : w4.cell? ⟨w.heap.size + 1, 0, none⟩ = some (.int .i64 P.g) := blk_cellZ D4.out.blk 0 rfl
          have q1 : w4.cell? ⟨w.heap.size + 1, 1, none⟩ = some (.slice pa P.pool.length pc) := blk_cellZ D4.out.blk 1 rfl
          have q2 : w4.cell? ⟨w.heap.size + 1, 2, none⟩ = some (.slice ca P.codes.length cc) := blk_cellZ D4.out.blk 2 rfl
          have c0' : w4.cell? ⟨w.heap.size, 0, none⟩ = some (.int .i64 0) := blk_cellZ R04.out 0 rfl
          have c1' : w4.cell? ⟨w.heap.size, 1, none⟩ = some (.slice none 0 0) := blk_cellZ R04.out 1 rfl
          have c2' : w4.cell? ⟨w.heap.size, 2, none⟩ = some (.slice none 0 0) := blk_cellZ R04.out 2 rfl
          have f0' := blk_free R04.out 0
          have f1' := blk_free R04.out 1
          have f2' := blk_free R04.out 2
          clear her b4 p0 p1 p2
          by_cases h0 : er = 0
          · subst h0
            have hc : checkP P := by
              rcases HER.out with ⟨_, h⟩ | ⟨h, _⟩
              · exact h
              · exact absurd h (by decide)
            have HI := hid (IOK.out hc)
            clear hc
            go_wp2_with fail
            have K := ((Keep.set (S := fun b => b = w.heap.size) (g := w.heap.size) rfl w4 0 (.int .i64 P.g)).trans (Keep.set (S := fun b => b = w.heap.size) (g := w.heap.size) rfl _ 1 (.slice pa P.pool.length pc)) (fun _ _ h => h)).trans (Keep.set (S := fun b => b = w.heap.size) (g := w.heap.size) rfl _ 2 (.slice ca P.codes.length cc)) (fun _ _ h => h)
            have hlow : ∀ g, w.heap.size + 1 ≤ g → ¬ g = w.heap.size := fun g hg e => by omega
            have RF := D4.out.keep K hne (fun g hg => hlow g (D4.out.plow g hg)) (fun g hg => hlow g (D4.out.clow g hg)) (fun x hx g hg => hlow g (D4.out.ilow x hx g hg))
            have PF := RF.pg (Nat.le_trans HF.out.pool HNB.out) (Nat.le_trans HF.out.codes HNB.out) (fun c hc => Nat.le_trans (HF.out.ins c hc) HNB.out) (fun s hs => Nat.le_trans (HF.out.strs s hs) (by decide))
            refine bodyPost_ret (results_c2 rfl _ _ _ rfl (load_prog (g := P.g) (pv := .slice pa P.pool.length pc) (cv := .slice ca P.codes.length cc) (blk_set (blk_set (blk_set R04.out 0 _) 1 _) 2 _))) rfl ?_
            exact ⟨⟨P, _, _, _, _, rfl, HI.out, PF⟩, ((L4.out.setCell (p := ⟨w.heap.size, 0, none⟩) (Nat.le_refl _) _).setCell (p := ⟨w.heap.size, 1, none⟩) (Nat.le_refl _) _).setCell (p := ⟨w.heap.size, 2, none⟩) (Nat.le_refl _) _⟩
          · have hc : ¬ checkP P ∧ er = 16 := by
              rcases HER.out with ⟨h, _⟩ | ⟨h, h2⟩
              · exact absurd h h0
              · exact ⟨h2, h⟩
            obtain ⟨hc, rfl⟩ := hc
            have HI := hid (INO.out hc)
            clear hc
            go_wp2_with fail
            refine bodyPost_ret (results_c2 rfl _ _ _ rfl (load_prog (g := 0) (pv := .slice none 0 0) (cv := .slice none 0 0) (blk_set (blk_set (blk_set R04.out 0 _) 1 _) 2 _))) rfl ?_
            exact ⟨⟨pg0, _, _, _, _, rfl, HI.out, pgIn_zero _⟩, ((L4.out.setCell (p := ⟨w.heap.size, 0, none⟩) (Nat.le_refl _) _).setCell (p := ⟨w.heap.size, 1, none⟩) (Nat.le_refl _) _).setCell (p := ⟨w.heap.size, 2, none⟩) (Nat.le_refl _) _⟩

end Go.Proofs.YtnojlfdojmkonaaGreatDoor
