/- One token, as the program reads it: words, numbers, strings, whatever comes. -/
import Derived.Test.YtijbiedblahmhaaDoorLexTok
import Derived.Test.YtijbiedblahmhaaDoorJoint17
namespace Go.Proofs.YtijbiedblahmhaaDoor
open Go.RowKit

/-- a token's block that may be written, holding a token -/
def Hold4 (g : Nat) (x y z q : Value) (w : World) : Prop :=
  g < w.heap.size ∧ w.cell? ⟨g, 0, none⟩ = some x ∧ w.cell? ⟨g, 1, none⟩ = some y ∧ w.cell? ⟨g, 2, none⟩ = some z ∧ w.cell? ⟨g, 3, none⟩ = some q ∧
    w.frozen? ⟨g, 0, none⟩ = false ∧ w.frozen? ⟨g, 1, none⟩ = false ∧ w.frozen? ⟨g, 2, none⟩ = false ∧ w.frozen? ⟨g, 3, none⟩ = false
theorem hold4_on {g : Nat} {x y z q : Value} {a b : World} (h : Hold4 g x y z q a) (k : Below a.heap.size a b) : Hold4 g x y z q b := by
  obtain ⟨h0, h1, h2, h3, h4, f0, f1, f2, f3⟩ := h
  exact ⟨Nat.lt_of_lt_of_le h0 k.size, cell_stays k h0 h1, cell_stays k h0 h2, cell_stays k h0 h3, cell_stays k h0 h4, (k.frozen (p := ⟨g, 0, none⟩) h0).trans f0, (k.frozen (p := ⟨g, 1, none⟩) h0).trans f1,
    (k.frozen (p := ⟨g, 2, none⟩) h0).trans f2, (k.frozen (p := ⟨g, 3, none⟩) h0).trans f3⟩
theorem hold4_new (w : World) (x y z q : Value) (t : TypeId) : Hold4 w.heap.size x y z q (w.alloc (Obj.cells #[x, y, z, q] t)) := by
  refine ⟨by simp, by simp, by simp, by simp, by simp, by simp, by simp, by simp, by simp⟩

theorem takeOut_le (l : List UInt8) : (takeOut l).2.1 ≤ l.length := by
  have hb := takeOut_bad l
  rcases hq : takeOut l with ⟨x, n, e⟩
  rw [hq] at hb
  simp only at hb ⊢
  rcases hb with h | ⟨_, _, h3⟩
  · subst h; exact (takeOut_good hq).2.1
  · exact h3

set_option maxHeartbeats 800000 in
set_option maxRecDepth 100000 in
theorem quoted_calls (s : ByteArray) (hs : s.size ≤ 1000000) (k : Nat) (hk : k < s.size) (w : World) :
    Calls Tryd.prog 27 #[.string s, .int .i64 k] w fun e w' => e = TokOut.ending (quoOut (s.data.toList.drop k) k) ∧ Below w.heap.size w w' := by
  have b0 := hid ((Below.refl w.heap.size w).alloc (Nat.le_refl _) (.cells #[.int .i64 0, .string ⟨#[]⟩, .int .i64 0, .int .i64 0] 41))
  have S0 := hid (slot4_new w rfl 41)
  have hn : (takeOut (s.data.toList.drop k)).2.1 ≤ 1000000 := by
    have := takeOut_le (s.data.toList.drop k)
    rw [List.length_drop, list_size] at this; omega
  have hb := takeOut_bad (s.data.toList.drop k)
  have hq : quoOut (s.data.toList.drop k) k = quoOut (s.data.toList.drop k) k := rfl
  conv at hq => rhs; unfold quoOut
  have Ht := hid (show takeOut (s.extract k s.size).data.toList = takeOut (s.data.toList.drop k) by rw [rest_list])
  have hes : (s.extract k s.size).size ≤ 1000000 := by rw [cut_size s (Nat.le_refl _)]; omega
  generalize takeOut (s.data.toList.drop k) = o at *
  obtain ⟨x, n, e⟩ := o
  simp only at hn hb hq
  rcases hb with rfl | ⟨rfl, _, _⟩
  · by_cases hx : 256 < x.length
    · have H := hid (hq.trans (by rw [if_pos rfl, if_pos hx]))
      clear hq
      go_enter Tryd.func27, Tryd.ntmps27
      go_wp2_with fail
      refine (take_calls _ hes _).mono ?_
      rintro e w1 ⟨rfl, b1⟩
      rw [Ht.out]
      have B := hid (below_in b0.out (Nat.le_refl _) b1)
      have S4 := hid (slot4_on S0.out b1)
      have ⟨g0, c0, c1, c2, c3, f0, f1, f2, f3⟩ := S4.out
      clear b1 b0 S0 Ht
      go_wp2
      rw [H.out]
      exact bodyPost_ret (ret_t rfl rfl (put4_cells S4.out _ _ _ _)) rfl ⟨rfl, put4 B.out (Nat.le_refl _) _ _ _ _⟩
    · have H := hid (hq.trans (by rw [if_pos rfl, if_neg hx]))
      clear hq
      go_enter Tryd.func27, Tryd.ntmps27
      go_wp2_with fail
      refine (take_calls _ hes _).mono ?_
      rintro e w1 ⟨rfl, b1⟩
      rw [Ht.out]
      have B := hid (below_in b0.out (Nat.le_refl _) b1)
      have S4 := hid (slot4_on S0.out b1)
      have ⟨g0, c0, c1, c2, c3, f0, f1, f2, f3⟩ := S4.out
      clear b1 b0 S0 Ht
      go_wp2
      rw [H.out]
      exact bodyPost_ret (ret_t rfl rfl (put4_cells S4.out _ _ _ _)) rfl ⟨rfl, put4 B.out (Nat.le_refl _) _ _ _ _⟩
  · have H := hid (hq.trans (by rw [if_neg (by decide)]))
    clear hq
    go_enter Tryd.func27, Tryd.ntmps27
    go_wp2_with fail
    refine (take_calls _ hes _).mono ?_
    rintro e w1 ⟨rfl, b1⟩
    rw [Ht.out]
    have B := hid (below_in b0.out (Nat.le_refl _) b1)
    have S4 := hid (slot4_on S0.out b1)
    have ⟨g0, c0, c1, c2, c3, f0, f1, f2, f3⟩ := S4.out
    clear b1 b0 S0 Ht
    go_wp2
    rw [H.out]
    exact bodyPost_ret (ret_t rfl rfl (put4_cells S4.out _ _ _ _)) rfl ⟨rfl, put4 B.out (Nat.le_refl _) _ _ _ _⟩

theorem readOut_err (l : List UInt8) : (readOut l).2 = 0 ∨ (readOut l).2 = 10 ∨ (readOut l).2 = 11 := by
  unfold readOut rout
  split
  · right; right; rfl
  · split
    · right; left; rfl
    · left; rfl
set_option maxHeartbeats 800000 in
set_option maxRecDepth 100000 in
theorem lnumber_calls (s : ByteArray) (hs : s.size ≤ 1000000) (k : Nat) (hk : k < s.size) (w : World) :
    Calls Tryd.prog 26 #[.string s, .int .i64 k] w fun e w' => e = TokOut.ending (numbOut (s.data.toList.drop k) k) ∧ Below w.heap.size w w' := by
  have b0 := hid ((Below.refl w.heap.size w).alloc (Nat.le_refl _) (.cells #[.int .i64 0, .string ⟨#[]⟩, .int .i64 0, .int .i64 0] 41))
  have S0 := hid (slot4_new w rfl 41)
  have hm1 := runTo_ge digitN s k
  have hm2 := runTo_le (p := digitN) (Nat.le_of_lt hk)
  have hq : numbOut (s.data.toList.drop k) k = numbOut (s.data.toList.drop k) k := rfl
  conv at hq => rhs; unfold numbOut
  have hto : k + runL digitN (s.data.toList.drop k) = runTo digitN s k := rfl
  have hcut : (s.data.toList.drop k).take (runL digitN (s.data.toList.drop k)) = (s.extract k (runTo digitN s k)).data.toList := by
    rw [cut_list]; unfold runTo; rw [Nat.add_sub_cancel_left]
  rw [hcut, hto] at hq
  have hxs : (s.extract k (runTo digitN s k)).size ≤ 4611686018427387903 := by rw [cut_size s hm2]; omega
  generalize hm : runTo digitN s k = m at *
  have Hm := hid hm
  clear hm hcut hto
  have he := readOut_err (s.extract k m).data.toList
  have hbd := readOut_bounds (s.extract k m).data.toList
  generalize hr : readOut (s.extract k m).data.toList = r at *
  obtain ⟨n, e⟩ := r
  have Hr := hid hr
  clear hr
  simp only at he hq hbd
  obtain ⟨n0, n1⟩ := hbd
  rcases (show e = 0 ∨ e ≠ 0 from by omega) with rfl | hne
  · have H := hid (hq.trans (by rw [if_pos rfl]))
    clear hq he
    go_enter Tryd.func26, Tryd.ntmps26
    go_wp2_with fail
    refine (rundigit_calls s hs k (Nat.le_of_lt hk) _).mono ?_
    rintro e w0 ⟨rfl, hw⟩
    rw [hw] at b0 S0
    clear hw
    rw [Hm.out]
    go_wp2_with fail
    refine (read_calls _ hxs _).mono ?_
    rintro e w1 ⟨rfl, b1⟩
    rw [Hr.out]
    have B1 := hid (below_in b0.out (Nat.le_refl _) b1)
    have S1 := hid (slot4_on S0.out b1)
    clear b1 b0 S0
    go_wp2_with fail
    refine (digits_calls n (by omega) (by omega) _).mono ?_
    rintro e w2 ⟨rfl, b2⟩
    have B := hid (below_in B1.out (Nat.le_refl _) b2)
    have S4 := hid (slot4_on S1.out b2)
    have ⟨g0, c0, c1, c2, c3, f0, f1, f2, f3⟩ := S4.out
    clear b2 B1 S1
    go_wp2
    rw [H.out]
    exact bodyPost_ret (ret_t rfl rfl (put4_cells S4.out _ _ _ _)) rfl ⟨rfl, put4 B.out (Nat.le_refl _) _ _ _ _⟩
  · have H := hid (hq.trans (by rw [if_neg hne]))
    have en : (e != 0) = true := by rw [bne_iff_ne]; exact hne
    clear hq hne
    go_enter Tryd.func26, Tryd.ntmps26
    go_wp2_with fail
    refine (rundigit_calls s hs k (Nat.le_of_lt hk) _).mono ?_
    rintro e w0 ⟨rfl, hw⟩
    rw [hw] at b0 S0
    clear hw
    rw [Hm.out]
    go_wp2_with fail
    refine (read_calls _ hxs _).mono ?_
    rintro e w1 ⟨rfl, b1⟩
    rw [Hr.out]
    have B := hid (below_in b0.out (Nat.le_refl _) b1)
    have S4 := hid (slot4_on S0.out b1)
    have ⟨g0, c0, c1, c2, c3, f0, f1, f2, f3⟩ := S4.out
    clear b1 b0 S0
    go_wp2
    rw [H.out]
    exact bodyPost_ret (ret_t rfl rfl (put4_cells S4.out _ _ _ _)) rfl ⟨rfl, put4 B.out (Nat.le_refl _) _ _ _ _⟩

theorem slot4_put {g g' : Nat} {w : World} (h : Slot4 g w) (hne : g ≠ g') (v : Value) : Slot4 g (w.setCell ⟨g', 0, none⟩ v) := by
  obtain ⟨h0, h1, h2, h3, h4, f0, f1, f2, f3⟩ := h
  refine ⟨by simpa [World.setCell] using h0, ?_, ?_, ?_, ?_, ?_, ?_, ?_, ?_⟩
  · rw [World.cell?_setCell_other (h := by intro h; cases h; exact hne rfl)]; exact h1
  · rw [World.cell?_setCell_other (h := by simp)]; exact h2
  · rw [World.cell?_setCell_other (h := by simp)]; exact h3
  · rw [World.cell?_setCell_other (h := by simp)]; exact h4
  · simp [f0]
  · simp [f1]
  · simp [f2]
  · simp [f3]

set_option maxHeartbeats 800000 in
set_option maxRecDepth 100000 in
theorem lword_calls (s : ByteArray) (hs : s.size ≤ 1000000) (k : Nat) (hk : k < s.size) (w : World) :
    Calls Tryd.prog 24 #[.string s, .int .i64 k] w fun e w' => e = TokOut.ending (wordOut (s.data.toList.drop k) k) ∧ Below w.heap.size w w' := by
  have b0 := hid ((Below.refl w.heap.size w).alloc (Nat.le_refl _) (.cells #[.int .i64 0, .string ⟨#[]⟩, .int .i64 0, .int .i64 0] 41))
  have S0 := hid (slot4_new w rfl 41)
  have hm1 := runTo_ge wordN s k
  have hm2 := runTo_le (p := wordN) (Nat.le_of_lt hk)
  have hq : wordOut (s.data.toList.drop k) k = wordOut (s.data.toList.drop k) k := rfl
  conv at hq => rhs; unfold wordOut
  have hto : k + runL wordN (s.data.toList.drop k) = runTo wordN s k := rfl
  have hcb : (⟨((s.data.toList.drop k).take (runL wordN (s.data.toList.drop k))).toArray⟩ : ByteArray) = s.extract k (runTo wordN s k) := (cut_bytes s k _).symm
  have hcut : (s.data.toList.drop k).take (runL wordN (s.data.toList.drop k)) = (s.extract k (runTo wordN s k)).data.toList := by
    rw [cut_list]; unfold runTo; rw [Nat.add_sub_cancel_left]
  rw [hcb, hcut, hto] at hq
  generalize hm : runTo wordN s k = m at *
  have Hm := hid hm
  clear hm hcut hto hcb
  cases hkey : keyB (s.extract k m).data.toList with
  | true =>
    have H := hid (hq.trans (by rw [hkey, if_pos rfl]))
    have Hk := hid hkey
    clear hq hkey
    go_enter Tryd.func24, Tryd.ntmps24
    go_wp2_with fail
    refine (runword_calls s hs k (Nat.le_of_lt hk) _).mono ?_
    rintro e w0 ⟨rfl, hw⟩
    rw [hw] at b0 S0
    clear hw
    rw [Hm.out]
    have b1 := (Below.refl w0.heap.size w0).alloc (Nat.le_refl _) (.cells #[.int .i64 1, .string (s.extract k m), .int .i64 0, .int .i64 k] 41)
    have B1 := hid (below_in b0.out (Nat.le_refl _) b1)
    have S1 := hid (slot4_on S0.out b1)
    have T1 := hid (hold4_new w0 (.int .i64 1) (.string (s.extract k m)) (.int .i64 0) (.int .i64 k) 41)
    have gl : w.heap.size < w0.heap.size := S0.out.1
    clear b1 b0 S0
    go_wp2_with fail
    refine (iskey_calls _ _).mono ?_
    rintro e w1 ⟨rfl, hw⟩
    rw [hw] at B1 S1 T1
    clear hw
    rw [Hk.out]
    generalize w0.heap.size = g1 at *
    have ⟨g0, c0, c1, c2, c3, f0, f1, f2, f3⟩ := S1.out
    have ⟨g0', c0', c1', c2', c3', f0', f1', f2', f3'⟩ := T1.out
    have S2 := hid (slot4_put S1.out (g' := g1) (by omega) (.int .i64 2))
    clear S1 T1
    go_wp2
    rw [H.out]
    exact bodyPost_ret (ret_t rfl rfl (put4_cells S2.out _ _ _ _)) rfl ⟨rfl, put4 (B1.out.setCell (show w.heap.size ≤ g1 by omega) _) (Nat.le_refl _) _ _ _ _⟩
  | false =>
    cases hnm : nameB (s.extract k m).data.toList with
    | true =>
      have H := hid (hq.trans (by rw [hkey, if_neg (by decide), hnm, if_pos rfl]))
      have Hk := hid hkey
      have Hn := hid hnm
      clear hq hkey hnm
      go_enter Tryd.func24, Tryd.ntmps24
      go_wp2_with fail
      refine (runword_calls s hs k (Nat.le_of_lt hk) _).mono ?_
      rintro e w0 ⟨rfl, hw⟩
      rw [hw] at b0 S0
      clear hw
      rw [Hm.out]
      have b1 := (Below.refl w0.heap.size w0).alloc (Nat.le_refl _) (.cells #[.int .i64 1, .string (s.extract k m), .int .i64 0, .int .i64 k] 41)
      have B1 := hid (below_in b0.out (Nat.le_refl _) b1)
      have S1 := hid (slot4_on S0.out b1)
      have T1 := hid (hold4_new w0 (.int .i64 1) (.string (s.extract k m)) (.int .i64 0) (.int .i64 k) 41)
      have gl : w.heap.size < w0.heap.size := S0.out.1
      clear b1 b0 S0
      go_wp2_with fail
      refine (iskey_calls _ _).mono ?_
      rintro e w1 ⟨rfl, hw⟩
      rw [hw] at B1 S1 T1
      clear hw
      rw [Hk.out]
      generalize w0.heap.size = g1 at *
      have ⟨g0, c0, c1, c2, c3, f0, f1, f2, f3⟩ := S1.out
      have ⟨g0', c0', c1', c2', c3', f0', f1', f2', f3'⟩ := T1.out
      go_wp2_with fail
      refine (isname_calls _ _).mono ?_
      rintro e w2 ⟨rfl, rfl⟩
      rw [Hn.out]
      go_wp2
      rw [H.out]
      exact bodyPost_ret (ret_t rfl rfl (put4_cells S1.out _ _ _ _)) rfl ⟨rfl, put4 B1.out (Nat.le_refl _) _ _ _ _⟩
    | false =>
      have H := hid (hq.trans (by rw [hkey, if_neg (by decide), hnm, if_neg (by decide)]))
      have Hk := hid hkey
      have Hn := hid hnm
      clear hq hkey hnm
      go_enter Tryd.func24, Tryd.ntmps24
      go_wp2_with fail
      refine (runword_calls s hs k (Nat.le_of_lt hk) _).mono ?_
      rintro e w0 ⟨rfl, hw⟩
      rw [hw] at b0 S0
      clear hw
      rw [Hm.out]
      have b1 := (Below.refl w0.heap.size w0).alloc (Nat.le_refl _) (.cells #[.int .i64 1, .string (s.extract k m), .int .i64 0, .int .i64 k] 41)
      have B1 := hid (below_in b0.out (Nat.le_refl _) b1)
      have S1 := hid (slot4_on S0.out b1)
      have T1 := hid (hold4_new w0 (.int .i64 1) (.string (s.extract k m)) (.int .i64 0) (.int .i64 k) 41)
      have gl : w.heap.size < w0.heap.size := S0.out.1
      clear b1 b0 S0
      go_wp2_with fail
      refine (iskey_calls _ _).mono ?_
      rintro e w1 ⟨rfl, hw⟩
      rw [hw] at B1 S1 T1
      clear hw
      rw [Hk.out]
      generalize w0.heap.size = g1 at *
      have ⟨g0, c0, c1, c2, c3, f0, f1, f2, f3⟩ := S1.out
      have ⟨g0', c0', c1', c2', c3', f0', f1', f2', f3'⟩ := T1.out
      go_wp2_with fail
      refine (isname_calls _ _).mono ?_
      rintro e w2 ⟨rfl, rfl⟩
      rw [Hn.out]
      go_wp2
      rw [H.out]
      exact bodyPost_ret (ret_t rfl rfl (put4_cells S1.out _ _ _ _)) rfl ⟨rfl, put4 B1.out (Nat.le_refl _) _ _ _ _⟩

set_option maxHeartbeats 800000 in
set_option maxRecDepth 100000 in
theorem next_calls (s : ByteArray) (hs : s.size ≤ 1000000) (k : Nat) (hk : k < s.size) (w : World) (h0 : 0 < w.heap.size) (SG : Hid (Texts 0 sgnL w)) :
    Calls Tryd.prog 16 #[.string s, .int .i64 k] w fun e w' => e = TokOut.ending (oneOut (s.data.toList.drop k) k) ∧ Below w.heap.size w w' := by
  have b0 := hid ((Below.refl w.heap.size w).alloc (Nat.le_refl _) (.cells #[.int .i64 0, .string ⟨#[]⟩, .int .i64 0, .int .i64 0] 41))
  have SG1 := hid (texts_on SG.out h0 b0.out)
  have S0 := hid (slot4_new w rfl 41)
  have h1 : 0 < (w.alloc (.cells #[.int .i64 0, .string ⟨#[]⟩, .int .i64 0, .int .i64 0] 41)).heap.size := by simp
  clear SG
  have hq : oneOut (s.data.toList.drop k) k = (if letterN s[k].toNat then wordOut (s.data.toList.drop k) k else if digitN s[k].toNat then numbOut (s.data.toList.drop k) k else if s[k].toNat = 34 then quoOut (s.data.toList.drop k) k else sgnOut (s.data.toList.drop k) k) := by
    rw [drop_byte s k hk]; rfl
  cases hl : letterN s[k].toNat with
  | true =>
    have H := hid (hq.trans (by rw [hl, if_pos rfl]))
    have Hl := hid hl
    clear hq hl SG1
    go_enter Tryd.func16, Tryd.ntmps16
    go_wp2_with fail
    refine (lletter_calls _ _).mono ?_
    rintro e w0 ⟨rfl, hw⟩
    rw [hw] at b0 S0 h1
    clear hw
    rw [Hl.out]
    go_wp2_with fail
    refine (lword_calls s hs k hk _).mono ?_
    rintro e w1 ⟨rfl, b1⟩
    have B := hid (below_in b0.out (Nat.le_refl _) b1)
    have S4 := hid (slot4_on S0.out b1)
    have ⟨g0, c0, c1, c2, c3, f0, f1, f2, f3⟩ := S4.out
    clear b1 b0 S0
    generalize ho : wordOut (s.data.toList.drop k) k = o at *
    obtain ⟨⟨t0, t1, t2, t3⟩, n, er⟩ := o
    unfold TokOut.ending Tok.val
    go_wp2
    rw [H.out]
    exact bodyPost_ret (ret_t rfl rfl (put4_cells S4.out _ _ _ _)) rfl ⟨rfl, put4 B.out (Nat.le_refl _) _ _ _ _⟩
  | false =>
    cases hd : digitN s[k].toNat with
    | true =>
      have H := hid (hq.trans (by rw [hl, if_neg (by decide), hd, if_pos rfl]))
      have Hl := hid hl
      have Hd := hid hd
      clear hq hl hd SG1
      go_enter Tryd.func16, Tryd.ntmps16
      go_wp2_with fail
      refine (lletter_calls _ _).mono ?_
      rintro e w0 ⟨rfl, hw⟩
      rw [hw] at b0 S0 h1
      clear hw
      rw [Hl.out]
      go_wp2_with fail
      refine (ldigit_calls _ _).mono ?_
      rintro e w00 ⟨rfl, rfl⟩
      rw [Hd.out]
      go_wp2_with fail
      refine (lnumber_calls s hs k hk _).mono ?_
      rintro e w1 ⟨rfl, b1⟩
      have B := hid (below_in b0.out (Nat.le_refl _) b1)
      have S4 := hid (slot4_on S0.out b1)
      have ⟨g0, c0, c1, c2, c3, f0, f1, f2, f3⟩ := S4.out
      clear b1 b0 S0
      generalize ho : numbOut (s.data.toList.drop k) k = o at *
      obtain ⟨⟨t0, t1, t2, t3⟩, n, er⟩ := o
      unfold TokOut.ending Tok.val
      go_wp2
      rw [H.out]
      exact bodyPost_ret (ret_t rfl rfl (put4_cells S4.out _ _ _ _)) rfl ⟨rfl, put4 B.out (Nat.le_refl _) _ _ _ _⟩
    | false =>
      by_cases h34 : s[k].toNat = 34
      · have H := hid (hq.trans (by rw [hl, if_neg (by decide), hd, if_neg (by decide), if_pos h34]))
        have Hl := hid hl
        have Hd := hid hd
        have e34 : ((s[k].toNat : Int) == 34) = true := beq_iff_eq.2 (by omega)
        clear hq hl hd SG1 h34
        go_enter Tryd.func16, Tryd.ntmps16
        go_wp2_with fail
        refine (lletter_calls _ _).mono ?_
        rintro e w0 ⟨rfl, hw⟩
        rw [hw] at b0 S0 h1
        clear hw
        rw [Hl.out]
        go_wp2_with fail
        refine (ldigit_calls _ _).mono ?_
        rintro e w00 ⟨rfl, rfl⟩
        rw [Hd.out]
        go_wp2_with fail
        refine (quoted_calls s hs k hk _).mono ?_
        rintro e w1 ⟨rfl, b1⟩
        have B := hid (below_in b0.out (Nat.le_refl _) b1)
        have S4 := hid (slot4_on S0.out b1)
        have ⟨g0, c0, c1, c2, c3, f0, f1, f2, f3⟩ := S4.out
        clear b1 b0 S0
        generalize ho : quoOut (s.data.toList.drop k) k = o at *
        obtain ⟨⟨t0, t1, t2, t3⟩, n, er⟩ := o
        unfold TokOut.ending Tok.val
        go_wp2
        rw [H.out]
        exact bodyPost_ret (ret_t rfl rfl (put4_cells S4.out _ _ _ _)) rfl ⟨rfl, put4 B.out (Nat.le_refl _) _ _ _ _⟩
      · have H := hid (hq.trans (by rw [hl, if_neg (by decide), hd, if_neg (by decide), if_neg h34]))
        have Hl := hid hl
        have Hd := hid hd
        have e34 : ((s[k].toNat : Int) == 34) = false := beq_eq_false_iff_ne.2 (by omega)
        clear hq hl hd h34
        go_enter Tryd.func16, Tryd.ntmps16
        go_wp2_with fail
        refine (lletter_calls _ _).mono ?_
        rintro e w0 ⟨rfl, hw⟩
        rw [hw] at b0 S0 h1 SG1
        clear hw
        rw [Hl.out]
        go_wp2_with fail
        refine (ldigit_calls _ _).mono ?_
        rintro e w00 ⟨rfl, rfl⟩
        rw [Hd.out]
        go_wp2_with fail
        refine (lsign_calls s hs k hk _ h1 SG1).mono ?_
        rintro e w1 ⟨rfl, b1⟩
        have B := hid (below_in b0.out (Nat.le_refl _) b1)
        have S4 := hid (slot4_on S0.out b1)
        have ⟨g0, c0, c1, c2, c3, f0, f1, f2, f3⟩ := S4.out
        clear b1 b0 S0
        generalize ho : sgnOut (s.data.toList.drop k) k = o at *
        obtain ⟨⟨t0, t1, t2, t3⟩, n, er⟩ := o
        unfold TokOut.ending Tok.val
        go_wp2
        rw [H.out]
        exact bodyPost_ret (ret_t rfl rfl (put4_cells S4.out _ _ _ _)) rfl ⟨rfl, put4 B.out (Nat.le_refl _) _ _ _ _⟩

end Go.Proofs.YtijbiedblahmhaaDoor
