/- Delete, Clone, Key and Names, as a dict has them. -/
import Derived.Test.YtphniknckmfilaaDcDrop
namespace Go.Proofs.Ytphniknckmfilaa
set_option linter.unusedSimpArgs false
open Go.RowKit

set_option maxHeartbeats 1000000 in
theorem ddel_calls {S : Nat → Prop} {d n : Nat} {l : List Ent} (w : World) (h : DcS S d n l w) (hn : n ≤ 1000000) (s : ByteArray) (hs : s.size ≤ 1000000) :
    Calls Try.prog 17 #[.pointer (some ⟨d, 0, none⟩), .string s] w fun e w' => e = .returned (.bool (hasL l s)) ∧
      DcS (Up S w) d n (dropL l s) w' ∧ Keep S w w' := by
  have HD := hid h
  obtain ⟨p, v, m, L, h1, h2, rfl, h4, h5, h6⟩ := h
  have c0 : w.cell? ⟨d, 0, none⟩ = some (.pointer (some ⟨p, 0, none⟩)) := by rw [blk_cell h1]; rfl
  have HF := hid (blk_far h1 h2 (by decide) (by decide))
  have HB := hid h1
  have HS := hid (drop_calls _ h2 s hs (by omega))
  clear h1 h2
  go_enter Try.func17, Try.ntmps17
  go_wp2_with fail
  refine (made_calls _ HD.out).mono ?_
  rintro e1 w1 ⟨rfl, rfl⟩
  go_wp2_with fail
  refine HS.out.mono ?_
  rintro e2 w2 ⟨rfl, v', m', L', g1, g2, g3, g4, g5⟩
  have RR := hid (show DcS (Up S w1) d n (dropL (live L) s) w2 from ⟨p, v', m', L', blk_keep HB.out g4 HF.out, g1, g2, by omega, .inl h5, fun b hb => by
    rcases g5 b hb with h | h
    · exact .inl (h6 b h)
    · exact .inr h⟩)
  have RK := hid (g4.mono (T := S) (fun b _ hb => h6 b hb))
  clear g1 g2 g4 g5
  go_wp2_with fail
  go_ret
  exact ⟨rfl, RR.out, RK.out⟩

theorem dclone_calls {S : Nat → Prop} {d n : Nat} {l : List Ent} (w : World) (h : DcS S d n l w) (hn : n ≤ 1000000) :
    Calls Try.prog 12 #[.pointer (some ⟨d, 0, none⟩)] w fun e w' => ∃ c, e = .returned (.pointer (some ⟨c, 0, none⟩)) ∧
      DcS (fun b => w.heap.size ≤ b) c n l w' ∧ Below w.heap.size w w' := by
  have HD := hid h
  obtain ⟨p, v, m, L, h1, h2, rfl, h4, h5, h6⟩ := h
  have c0 : w.cell? ⟨d, 0, none⟩ = some (.pointer (some ⟨p, 0, none⟩)) := by rw [blk_cell h1]; rfl
  have HS := hid (pressed_calls _ h2 (by omega))
  have hll := live_len L
  clear h1 h2
  go_enter Try.func12, Try.ntmps12
  go_wp2_with fail
  refine (made_calls _ HD.out).mono ?_
  rintro e1 w1 ⟨rfl, rfl⟩
  go_wp2_with fail
  refine HS.out.mono ?_
  rintro e2 w2 ⟨q, u, k, rfl, g1, g2, g3⟩
  have G1 := hid g1
  have G2 := hid g2
  have G3 := hid g3
  clear g1 g2 g3
  go_wp2_with fail
  go_ret
  have hs := G2.out.size
  have kb := (Below.refl w2.heap.size w2).alloc (Nat.le_refl _) (.cells #[.pointer (some ⟨q, 0, none⟩)] 50)
  exact ⟨_, rfl, ⟨q, u, k, _, blk_new _ _ _, G1.out.on kb, live_some _, by rw [List.length_map]; omega, hs, G3.out⟩, below_on G2.out kb⟩

/-- the i-th of those that are left -/
theorem nth_skip {L : Pls} {j r : Nat} (h : L[j]? = some none) : (live (L.drop j))[r]? = (live (L.drop (j + 1)))[r]? := by
  obtain ⟨hl, he⟩ := List.getElem?_eq_some_iff.1 h
  rw [List.drop_eq_getElem_cons hl, he]; rfl
theorem nth_here {L : Pls} {j : Nat} {e : Ent} (h : L[j]? = some (some e)) : live (L.drop j) = e :: live (L.drop (j + 1)) := by
  obtain ⟨hl, he⟩ := List.getElem?_eq_some_iff.1 h
  rw [List.drop_eq_getElem_cons hl, he]; rfl

set_option maxHeartbeats 2000000 in
theorem nth_calls {p m i : Nat} {v : Value} {L : Pls} {x : Ent} (w : World) (h : PlAt p v m L w) (hf : L.length ≤ 1000000) (hi : (live L)[i]? = some x) :
    Calls Try.prog 28 #[.pointer (some ⟨p, 0, none⟩), .int .i64 (i : Int)] w fun e w' => e = .returned (.string x.1) ∧ Below w.heap.size w w' := by
  have hil : i < (live L).length := (List.getElem?_eq_some_iff.1 hi).1
  have hll := live_len L
  obtain ⟨ao, cap, rfl⟩ := row_shape h.row
  have hpm := h.lt (.inl rfl)
  have HO := hid (holes_calls _ h hf)
  have HP := hid h
  obtain ⟨N, hN⟩ : ∃ N, L.length - (live L).length = N := ⟨_, rfl⟩
  rw [hN] at HO
  obtain ⟨d0, d1⟩ := h.cells
  clear h
  go_enter Try.func28, Try.ntmps28
  go_wp2_with fail
  refine HO.out.mono ?_
  rintro e1 w1 ⟨rfl, b1⟩
  have c0 : w1.cell? ⟨p, 0, none⟩ = some (.slice ao L.length cap) := (b1.cell (p := ⟨p, 0, none⟩) hpm).trans d0
  have HB := hid b1
  by_cases h0 : N = 0
  · subst h0
    have hfl : L = (live L).map some := full_some (by omega)
    have hx : L[i]? = some (some x) := by rw [hfl]; simp [hi]
    obtain ⟨g, cap', he, hgs, hc, _⟩ := (HP.out.on b1).place hx
    injection he with he1 he2 he3
    subst he1 he3
    have c1 : w1.cell? ⟨g, i * 5 + 1, none⟩ = some (.string x.1) := hc 1 (by omega)
    have hiL : i < L.length := by omega
    clear hc b1 hfl hN hx
    go_wp2_with fail
    go_ret
    exact ⟨rfl, HB.out⟩
  · have hb0 : decide ((N : Int) = 0) = false := decide_eq_false (by omega)
    have HI := hid hi
    clear b1 hi hN
    go_wp2_with fail
    go_loopw [1, 23] (fun a b wr => ∃ (j r : Nat), j ≤ L.length ∧ b = .int .i64 j ∧ a = .int .i64 r ∧ Hid ((live (L.drop j))[r]? = some x) ∧ r ≤ 1000000 ∧ Hid (Below w.heap.size w wr)) (fun _ b _ => L.length - (intOf b).toNat)
    case atStart => exact ⟨0, i, Nat.zero_le _, rfl, rfl, HI, by omega, HB⟩
    case round =>
      obtain ⟨j, r, hj, rfl, rfl, hX, hr, hB⟩ := hrel
      have hjl : j < L.length := by
        rcases Nat.lt_or_ge j L.length with h | h
        · exact h
        · have := hX.out
          rw [List.drop_eq_nil_of_le h] at this
          simp [live] at this
      obtain ⟨o, ho⟩ : ∃ o, L[j]? = some o := ⟨L[j], List.getElem?_eq_getElem hjl⟩
      obtain ⟨g, cap', he, hgs, hc, _⟩ := (HP.out.on hB.out).place ho
      injection he with he1 he2 he3
      subst he1 he3
      cases o with
      | none =>
        have c1 : wr.cell? ⟨g, j * 5, none⟩ = some (.bool false) := hc 0 (by omega)
        have c2 : wr.cell? ⟨g, j * 5 + 1, none⟩ = some (.string ⟨#[]⟩) := hc 1 (by omega)
        have c3 : wr.cell? ⟨g, j * 5 + 2, none⟩ = some (.int .i64 0) := hc 2 (by omega)
        have c4 : wr.cell? ⟨g, j * 5 + 3, none⟩ = some (.int .i64 0) := hc 3 (by omega)
        have c5 : wr.cell? ⟨g, j * 5 + 4, none⟩ = some (.string ⟨#[]⟩) := hc 4 (by omega)
        have hX2 := hid ((nth_skip ho).symm.trans hX.out)
        clear hc
        go_wp2_with fail
        exact ⟨⟨j + 1, r, by omega, by simp, rfl, hX2, hr, hid (below_on hB.out ((Below.refl _ _).alloc (Nat.le_refl _) _))⟩, by simp [intOf]; omega⟩
      | some e =>
        have c1 : wr.cell? ⟨g, j * 5, none⟩ = some (.bool true) := hc 0 (by omega)
        have c2 : wr.cell? ⟨g, j * 5 + 1, none⟩ = some (.string e.1) := hc 1 (by omega)
        have c3 : wr.cell? ⟨g, j * 5 + 2, none⟩ = some (.int .i64 e.2.1) := hc 2 (by omega)
        have c4 : wr.cell? ⟨g, j * 5 + 3, none⟩ = some (.int .i64 e.2.2.1) := hc 3 (by omega)
        have c5 : wr.cell? ⟨g, j * 5 + 4, none⟩ = some (.string e.2.2.2) := hc 4 (by omega)
        have hX2 := hX.out
        rw [nth_here ho] at hX2
        clear hc
        cases r with
        | zero =>
          have hex : e = x := by simpa using hX2
          subst hex
          clear hX2
          go_wp2_with fail
          go_ret
          exact ⟨rfl, below_on hB.out ((Below.refl _ _).alloc (Nat.le_refl _) _)⟩
        | succ r =>
          have hX3 := hid (show (live (L.drop (j + 1)))[r]? = some x by simpa using hX2)
          have hr0 : decide (((r + 1 : Nat) : Int) = 0) = false := decide_eq_false (by omega)
          have er : ((r + 1 : Nat) : Int) - 1 = (r : Int) := by omega
          clear hX2
          go_wp2_with fail
          exact ⟨⟨j + 1, r, by omega, by simp, rfl, hX3, by omega, hid (below_on hB.out ((Below.refl _ _).alloc (Nat.le_refl _) _))⟩, by simp [intOf]; omega⟩

/-- the name of the i-th, or none -/
def keyAt (l : List Ent) (i : Int) : Option ByteArray := if 0 ≤ i ∧ i < l.length then (l[i.toNat]?).map (·.1) else none
theorem key_none {S : Nat → Prop} {d n : Nat} {l : List Ent} (w : World) (h : DcS S d n l w) (i : Int) (hi : ¬ (0 ≤ i ∧ i < l.length)) :
    Calls Try.prog 15 #[.pointer (some ⟨d, 0, none⟩), .int .i64 i] w fun e w' => e = .returned (.tuple #[.string ⟨#[]⟩, .bool false]) ∧ w' = w := by
  have HL := hid (len_calls w h)
  clear h
  by_cases h0 : i < 0
  · clear hi
    go_enter Try.func15, Try.ntmps15
    go_wp2_with fail
    go_ret2
    exact ⟨rfl, rfl⟩
  · have h1 : decide (i < 0) = false := decide_eq_false h0
    have h2 : decide ((l.length : Int) ≤ i) = true := decide_eq_true (by omega)
    clear hi h0
    go_enter Try.func15, Try.ntmps15
    go_wp2_with fail
    refine HL.out.mono ?_
    rintro e1 w1 ⟨rfl, rfl⟩
    go_wp2_with fail
    go_ret2
    exact ⟨rfl, rfl⟩
theorem key_some {S : Nat → Prop} {d n i : Nat} {l : List Ent} {x : Ent} (w : World) (h : DcS S d n l w) (hn : n ≤ 1000000) (hi : l[i]? = some x) :
    Calls Try.prog 15 #[.pointer (some ⟨d, 0, none⟩), .int .i64 (i : Int)] w fun e w' => e = .returned (.tuple #[.string x.1, .bool true]) ∧ Below w.heap.size w w' := by
  have HL := hid (len_calls w h)
  obtain ⟨p, v, m, L, h1, h2, rfl, h4, h5, h6⟩ := h
  have c0 : w.cell? ⟨d, 0, none⟩ = some (.pointer (some ⟨p, 0, none⟩)) := by rw [blk_cell h1]; rfl
  have HN := hid (nth_calls w h2 (by omega) hi)
  have hil : i < (live L).length := (List.getElem?_eq_some_iff.1 hi).1
  have q2 : decide (((live L).length : Int) ≤ (i : Int)) = false := decide_eq_false (by omega)
  clear h1 h2 hi
  go_enter Try.func15, Try.ntmps15
  go_wp2_with fail
  refine HL.out.mono ?_
  rintro e1 w1 ⟨rfl, rfl⟩
  go_wp2_with fail
  refine HN.out.mono ?_
  rintro e1 w2 ⟨rfl, b2⟩
  have HB := hid b2
  clear b2 HN
  go_wp2_with fail
  go_ret2
  exact ⟨rfl, HB.out⟩

/-- texts of one's own, from block lo on -/
def StrsOwn (lo : Nat) (v : Value) (l : List ByteArray) (w : World) : Prop := w.ownsRow 0 9 1 v l.length (l.map Value.string) ∧ ∀ g, v.ownBlock = some g → lo ≤ g
theorem strsOwn_on {lo : Nat} {v : Value} {l : List ByteArray} {a c : World} (h : StrsOwn lo v l a) (k : Below a.heap.size a c) : StrsOwn lo v l c :=
  ⟨row_keep h.1 (fun g hg => k.block g (by obtain ⟨cur, hc⟩ := row_lt h.1 hg; exact blk_lt hc)), h.2⟩
theorem strsOwn_keep {S : Nat → Prop} {lo : Nat} {v : Value} {l : List ByteArray} {a c : World} (h : StrsOwn lo v l a) (k : Keep S a c) (hS : ∀ g, v.ownBlock = some g → ¬ S g) : StrsOwn lo v l c :=
  ⟨row_keep h.1 (fun g hg => k.block g (by obtain ⟨cur, hc⟩ := row_lt h.1 hg; exact blk_lt hc) (hS g hg)), h.2⟩
/-- one text more -/
theorem strs_app {ops : Array Oper} {rest : List Oper} {o : Oper} {a : Act} {Q : Exit → Act → World → Prop} {w : World} (hgd : o.guard = none) (s x : Operand)
    (ho : o.op = .call { callee := .builtin .append, args := #[s, x], argTypes := #[26, 26] })
    (lo : Nat) (l : List ByteArray) (t : ByteArray) (v : Value) (hs : a.eval s = v) (hown : StrsOwn lo v l w)
    (nb : Nat) (hx : a.eval x = .slice (some ⟨nb, 0, none⟩) 1 1) (hnb : nb = w.heap.size) (hlen : l.length ≤ 1000000) (hlo : lo ≤ w.heap.size)
    (h : ∀ g cap w', StrsOwn lo (.slice (some ⟨g, 0, none⟩) (l.length + 1) cap) (l ++ [t]) w' → w.grownBy w' v.ownBlock → (v.ownBlock = some g ∨ w.heap.size ≤ g) → wpList Try.prog ops Q rest (a.put o.dst (.slice (some ⟨g, 0, none⟩) (l.length + 1) cap)) w') :
    wpList Try.prog ops Q (o :: rest) a (w.alloc (.cells #[.string t] 9)) := by
  subst hnb
  obtain ⟨i0, hi, hz0, hz1, hz2⟩ := infoS
  have A := (Below.refl w.heap.size w).alloc (Nat.le_refl _) (.cells #[.string t] 9)
  refine wpList_append_lies _ hgd s x 26 ho 0 9 i0 _ 1 16 underS hi hz0 hz1 hz2 rfl (by decide) v l.length _ hs (strsOwn_on hown A).1 ⟨w.heap.size, 0, none⟩ 1 1 [.string t] hx rfl (World.news_of_block (heap_alloc_new w (.cells #[.string t] 9))) ?_ (by decide) (by unfold maxLen; omega) (by omega) (Nat.zero_le _) (w.heap.size + 1) (by simp) ?_
  · intro u hu
    simp at hu
    subst hu; rfl
  · intro g cap w' hown' hgrow hat hlt
    refine h g cap w' ⟨by simpa using hown', fun k hk => ?_⟩ ?_ ?_
    · simp [Value.ownBlock] at hk
      subst hk
      rcases hat with h1 | h1
      · exact hown.2 _ h1
      · omega
    · refine ⟨hgrow.os.trans A.os, hgrow.tape.trans A.tape, hgrow.output.trans A.output, Nat.le_trans A.size hgrow.size, fun k hk hne => ?_⟩
      rw [hgrow.block k (by simp; omega) hne, A.block k hk]
    · rcases hat with h1 | h1
      · exact .inl h1
      · exact .inr (by omega)

set_option maxHeartbeats 2000000 in
theorem names_calls {p m : Nat} {v : Value} {L : Pls} (w : World) (h : PlAt p v m L w) (hf : L.length ≤ 1000000) :
    Calls Try.prog 31 #[.pointer (some ⟨p, 0, none⟩)] w fun e w' => ∃ u, e = .returned u ∧ StrsOwn w.heap.size u ((live L).map (·.1)) w' ∧ Below w.heap.size w w' := by
  obtain ⟨i0, hi, hz0, hz1, hz2⟩ := infoS
  have H := hid h
  have hll := live_len L
  obtain ⟨ao, cap, rfl⟩ := row_shape h.row
  have hpm := h.lt (.inl rfl)
  obtain ⟨d0, d1⟩ := h.cells
  clear h
  go_enter Try.func31, Try.ntmps31
  go_wp2_with fail
  refine (count_calls _ H.out).mono ?_
  rintro e1 w1 ⟨rfl, rfl⟩
  go_wp2_with (first | (at_make; refine wp_make rfl _ _ _ _ rfl i0 _ 1 16 (live L).length underS hi hz0 hz1 hz2 rfl rfl (by omega) (by decide) ?_; intro cur hcur; have Q0 := hid (show StrsOwn w1.heap.size (.slice (some ⟨w1.heap.size, 0, none⟩) 0 (live L).length) [] (w1.alloc (.cells cur 9)) from ⟨row_made (blk_new w1 _ cur) hcur (by omega), fun g hg => by simp [Value.ownBlock] at hg; omega⟩); clear hcur) | fail)
  go_loopw [3, 14] (fun a i wr => ∃ (j : Nat), j ≤ L.length ∧ i = .int .i64 j ∧ Hid (StrsOwn w1.heap.size a ((live (L.take j)).map (·.1)) wr) ∧ Hid (Below w1.heap.size w1 wr)) (fun _ i _ => L.length - (intOf i).toNat)
  case atStart => exact ⟨0, Nat.zero_le _, rfl, Q0, hid ((Below.refl _ _).alloc (Nat.le_refl _) _)⟩
  case round =>
    obtain ⟨j, hj, rfl, hQ, hB⟩ := hrel
    by_cases hjl : j < L.length
    · have hL := H.out.on hB.out
      obtain ⟨o, ho⟩ : ∃ o, L[j]? = some o := ⟨L[j], List.getElem?_eq_getElem hjl⟩
      obtain ⟨g, cap', he, hgs, hc, _⟩ := hL.place ho
      injection he with he1 he2 he3
      subst he1 he3
      have hLT := hid (live_take ho)
      cases o with
      | none =>
        have c0 : wr.cell? ⟨g, j * 5, none⟩ = some (.bool false) := hc 0 (by omega)
        have c1 : wr.cell? ⟨g, j * 5 + 1, none⟩ = some (.string ⟨#[]⟩) := hc 1 (by omega)
        have c2 : wr.cell? ⟨g, j * 5 + 2, none⟩ = some (.int .i64 0) := hc 2 (by omega)
        have c3 : wr.cell? ⟨g, j * 5 + 3, none⟩ = some (.int .i64 0) := hc 3 (by omega)
        have c4 : wr.cell? ⟨g, j * 5 + 4, none⟩ = some (.string ⟨#[]⟩) := hc 4 (by omega)
        clear hc hL
        go_wp2_with fail
        have A := (Below.refl wr.heap.size wr).alloc (Nat.le_refl _) (Obj.cells #[.bool false, .string ⟨#[]⟩, .int .i64 0, .int .i64 0, .string ⟨#[]⟩] 62)
        refine ⟨⟨j + 1, by omega, by simp, ?_, hid (below_on hB.out A)⟩, by simp [intOf]; omega⟩
        rw [hLT.out, show live [none] = [] from rfl, List.append_nil]
        exact hid (strsOwn_on hQ.out A)
      | some e =>
        have c0 : wr.cell? ⟨g, j * 5, none⟩ = some (.bool true) := hc 0 (by omega)
        have c1 : wr.cell? ⟨g, j * 5 + 1, none⟩ = some (.string e.1) := hc 1 (by omega)
        have c2 : wr.cell? ⟨g, j * 5 + 2, none⟩ = some (.int .i64 e.2.1) := hc 2 (by omega)
        have c3 : wr.cell? ⟨g, j * 5 + 3, none⟩ = some (.int .i64 e.2.2.1) := hc 3 (by omega)
        have c4 : wr.cell? ⟨g, j * 5 + 4, none⟩ = some (.string e.2.2.2) := hc 4 (by omega)
        have A := (Below.refl wr.heap.size wr).alloc (Nat.le_refl _) (Obj.cells #[.bool true, .string e.1, .int .i64 e.2.1, .int .i64 e.2.2.1, .string e.2.2.2] 62)
        have HB2 := hid (below_on hB.out A)
        have HQ2 := hid (strsOwn_on hQ.out A)
        have hl2 : ((live (L.take j)).map (·.1)).length ≤ 1000000 := by have := live_len (L.take j); rw [List.length_take] at this; rw [List.length_map]; omega
        have HL2 := hid hl2
        have HZ := hid HB2.out.size
        clear hc hL A hl2 hQ hB
        go_wp2_with (first | (at_builtin; refine strs_app rfl _ _ rfl w1.heap.size _ e.1 _ (by rfl) HQ2.out _ (by rfl) (by simp) HL2.out HZ.out ?_; intro g2 cp2 w3 hS3 hg3 hat3; simp only [List.length_map] at hS3; have S3 := hid hS3; have B3 := hid (HB2.out.grown hg3 HZ.out (fun k hk => HQ2.out.2 k hk)); clear hS3 hg3 hat3) | fail)
        refine ⟨⟨j + 1, by omega, by simp, ?_, B3⟩, by simp [intOf]; omega⟩
        rw [hLT.out, show live [some e] = [e] from rfl, List.map_append]
        exact S3
    · have hje : j = L.length := by omega
      subst hje
      rw [List.take_length] at hQ
      go_wp2_with fail
      go_ret
      exact ⟨_, rfl, hQ.out, hB.out⟩
theorem dnames_calls {S : Nat → Prop} {d n : Nat} {l : List Ent} (w : World) (h : DcS S d n l w) (hn : n ≤ 1000000) :
    Calls Try.prog 18 #[.pointer (some ⟨d, 0, none⟩)] w fun e w' => ∃ u, e = .returned u ∧ StrsOwn w.heap.size u (l.map (·.1)) w' ∧ Below w.heap.size w w' := by
  have HD := hid h
  obtain ⟨p, v, m, L, h1, h2, rfl, h4, h5, h6⟩ := h
  have c0 : w.cell? ⟨d, 0, none⟩ = some (.pointer (some ⟨p, 0, none⟩)) := by rw [blk_cell h1]; rfl
  have HS := hid (names_calls _ h2 (by omega))
  clear h1 h2
  go_enter Try.func18, Try.ntmps18
  go_wp2_with fail
  refine (made_calls _ HD.out).mono ?_
  rintro e1 w1 ⟨rfl, rfl⟩
  go_wp2_with fail
  refine HS.out.mono ?_
  rintro e2 w2 ⟨u, rfl, g1, g2⟩
  have G1 := hid g1
  have G2 := hid g2
  clear g1 g2
  go_wp2_with fail
  go_ret
  exact ⟨_, rfl, G1.out, G2.out⟩

end Go.Proofs.Ytphniknckmfilaa
