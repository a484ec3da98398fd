/- Delete, Clone, Key and Names, as a dict has them. Of: a text's number, a new one if it has none. -/
import Derived.Test.YtimhgbcanmgajaaGreatDcDrop
import Derived.Test.YtimhgbcanmgajaaGreatJoint2
import Derived.Test.YtimhgbcanmgajaaGreatJoint4
namespace Go.Proofs.YtimhgbcanmgajaaGreat
set_option linter.unusedSimpArgs false
set_option maxRecDepth 100000
open Go.RowKit

set_option maxHeartbeats 1000000 in
theorem ddel_calls {S : Nat → Prop} {d n : Nat} {l : List Ent} (w : World) (h : DcS S d n l w) (hn : n ≤ 1000000) (s : ByteArray) (hs : s.size ≤ 1000000) :
    Calls Tryz.prog 118 #[.pointer (some ⟨d, 0, none⟩), .string s] w fun e w' => e = .returned (.bool (hasL l s)) ∧
      DcS (Up S w) d n (dropL l s) w' ∧ Keep S w w' := by
  have HD := hid h
  obtain ⟨p, v, m, L, h1, h2, rfl, h4, h5, h6⟩ := h
  have c0 : w.cell? ⟨d, 0, none⟩ = some (.pointer (some ⟨p, 0, none⟩)) := by rw [blk_cell h1]; rfl
  have HF := hid (blk_far h1 h2 (by decide) (by decide))
  have HB := hid h1
  have HS := hid (drop_calls _ h2 s hs (by omega))
  clear h1 h2
  go_enter Tryz.func118, Tryz.ntmps118
  go_wp2_with fail
  refine (made_calls _ HD.out).mono ?_
  rintro e1 w1 ⟨rfl, rfl⟩
  go_wp2_with fail
  refine HS.out.mono ?_
  rintro e2 w2 ⟨rfl, v', m', L', g1, g2, g3, g4, g5⟩
  have RR := hid (show DcS (Up S w1) d n (dropL (live L) s) w2 from ⟨p, v', m', L', blk_keep HB.out g4 HF.out, g1, g2, by omega, .inl h5, fun b hb => by
    rcases g5 b hb with h | h
    · exact .inl (h6 b h)
    · exact .inr h⟩)
  have RK := hid (g4.mono (T := S) (fun b _ hb => h6 b hb))
  clear g1 g2 g4 g5
  go_wp2_with fail
  go_ret
  exact ⟨rfl, RR.out, RK.out⟩

/-- the i-th of those that are left -/
theorem nth_skip {L : Pls} {j r : Nat} (h : L[j]? = some none) : (live (L.drop j))[r]? = (live (L.drop (j + 1)))[r]? := by
  obtain ⟨hl, he⟩ := List.getElem?_eq_some_iff.1 h
  rw [List.drop_eq_getElem_cons hl, he]; rfl
theorem nth_here {L : Pls} {j : Nat} {e : Ent} (h : L[j]? = some (some e)) : live (L.drop j) = e :: live (L.drop (j + 1)) := by
  obtain ⟨hl, he⟩ := List.getElem?_eq_some_iff.1 h
  rw [List.drop_eq_getElem_cons hl, he]; rfl

set_option maxHeartbeats 2000000 in
theorem nth_calls {p m i : Nat} {v : Value} {L : Pls} {x : Ent} (w : World) (h : PlAt p v m L w) (hf : L.length ≤ 1000000) (hi : (live L)[i]? = some x) :
    Calls Tryz.prog 209 #[.pointer (some ⟨p, 0, none⟩), .int .i64 (i : Int)] w fun e w' => e = .returned (.string x.1) ∧ Below w.heap.size w w' := by
  have hil : i < (live L).length := (List.getElem?_eq_some_iff.1 hi).1
  have hll := live_len L
  obtain ⟨ao, cap, rfl⟩ := row_shape h.row
  have hpm := h.lt (.inl rfl)
  have HO := hid (holes_calls _ h hf)
  have HP := hid h
  obtain ⟨N, hN⟩ : ∃ N, L.length - (live L).length = N := ⟨_, rfl⟩
  rw [hN] at HO
  obtain ⟨d0, d1⟩ := h.cells
  clear h
  go_enter Tryz.func209, Tryz.ntmps209
  go_wp2_with fail
  refine HO.out.mono ?_
  rintro e1 w1 ⟨rfl, b1⟩
  have c0 : w1.cell? ⟨p, 0, none⟩ = some (.slice ao L.length cap) := (b1.cell (p := ⟨p, 0, none⟩) hpm).trans d0
  have HB := hid b1
  by_cases h0 : N = 0
  · subst h0
    have hfl : L = (live L).map some := full_some (by omega)
    have hx : L[i]? = some (some x) := by rw [hfl]; simp [hi]
    obtain ⟨g, cap', he, hgs, hc, _⟩ := (HP.out.on b1).place hx
    injection he with he1 he2 he3
    subst he1 he3
    have c1 : w1.cell? ⟨g, i * 5 + 1, none⟩ = some (.string x.1) := hc 1 (by omega)
    have hiL : i < L.length := by omega
    clear hc b1 hfl hN hx
    go_wp2_with fail
    go_ret
    exact ⟨rfl, HB.out⟩
  · have hb0 : decide ((N : Int) = 0) = false := decide_eq_false (by omega)
    have HI := hid hi
    clear b1 hi hN
    go_wp2_with fail
    go_loopw [1, 23] (fun a b wr => ∃ (j r : Nat), j ≤ L.length ∧ b = .int .i64 j ∧ a = .int .i64 r ∧ Hid ((live (L.drop j))[r]? = some x) ∧ r ≤ 1000000 ∧ Hid (Below w.heap.size w wr)) (fun _ b _ => L.length - (intOf b).toNat)
    case atStart => exact ⟨0, i, Nat.zero_le _, rfl, rfl, HI, by omega, HB⟩
    case round =>
      obtain ⟨j, r, hj, rfl, rfl, hX, hr, hB⟩ := hrel
      have hjl : j < L.length := by
        rcases Nat.lt_or_ge j L.length with h | h
        · exact h
        · have := hX.out
          rw [List.drop_eq_nil_of_le h] at this
          simp [live] at this
      obtain ⟨o, ho⟩ : ∃ o, L[j]? = some o := ⟨L[j], List.getElem?_eq_getElem hjl⟩
      obtain ⟨g, cap', he, hgs, hc, _⟩ := (HP.out.on hB.out).place ho
      injection he with he1 he2 he3
      subst he1 he3
      cases o with
      | none =>
        have c1 : wr.cell? ⟨g, j * 5, none⟩ = some (.bool false) := hc 0 (by omega)
        have c2 : wr.cell? ⟨g, j * 5 + 1, none⟩ = some (.string ⟨#[]⟩) := hc 1 (by omega)
        have c3 : wr.cell? ⟨g, j * 5 + 2, none⟩ = some (.int .i64 0) := hc 2 (by omega)
        have c4 : wr.cell? ⟨g, j * 5 + 3, none⟩ = some (.int .i64 0) := hc 3 (by omega)
        have c5 : wr.cell? ⟨g, j * 5 + 4, none⟩ = some (.string ⟨#[]⟩) := hc 4 (by omega)
        have hX2 := hid ((nth_skip ho).symm.trans hX.out)
        clear hc
        go_wp2_with fail
        exact ⟨⟨j + 1, r, by omega, by simp, rfl, hX2, hr, hid (below_on hB.out ((Below.refl _ _).alloc (Nat.le_refl _) _))⟩, by simp [intOf]; omega⟩
      | some e =>
        have c1 : wr.cell? ⟨g, j * 5, none⟩ = some (.bool true) := hc 0 (by omega)
        have c2 : wr.cell? ⟨g, j * 5 + 1, none⟩ = some (.string e.1) := hc 1 (by omega)
        have c3 : wr.cell? ⟨g, j * 5 + 2, none⟩ = some (.int .i64 e.2.1) := hc 2 (by omega)
        have c4 : wr.cell? ⟨g, j * 5 + 3, none⟩ = some (.int .i64 e.2.2.1) := hc 3 (by omega)
        have c5 : wr.cell? ⟨g, j * 5 + 4, none⟩ = some (.string e.2.2.2) := hc 4 (by omega)
        have hX2 := hX.out
        rw [nth_here ho] at hX2
        clear hc
        cases r with
        | zero =>
          have hex : e = x := by simpa using hX2
          subst hex
          clear hX2
          go_wp2_with fail
          go_ret
          exact ⟨rfl, below_on hB.out ((Below.refl _ _).alloc (Nat.le_refl _) _)⟩
        | succ r =>
          have hX3 := hid (show (live (L.drop (j + 1)))[r]? = some x by simpa using hX2)
          have hr0 : decide (((r + 1 : Nat) : Int) = 0) = false := decide_eq_false (by omega)
          have er : ((r + 1 : Nat) : Int) - 1 = (r : Int) := by omega
          clear hX2
          go_wp2_with fail
          exact ⟨⟨j + 1, r, by omega, by simp, rfl, hX3, by omega, hid (below_on hB.out ((Below.refl _ _).alloc (Nat.le_refl _) _))⟩, by simp [intOf]; omega⟩

/-- the name of the i-th, or none -/
def keyAt (l : List Ent) (i : Int) : Option ByteArray := if 0 ≤ i ∧ i < l.length then (l[i.toNat]?).map (·.1) else none
theorem key_none {S : Nat → Prop} {d n : Nat} {l : List Ent} (w : World) (h : DcS S d n l w) (i : Int) (hi : ¬ (0 ≤ i ∧ i < l.length)) :
    Calls Tryz.prog 207 #[.pointer (some ⟨d, 0, none⟩), .int .i64 i] w fun e w' => e = .returned (.tuple #[.string ⟨#[]⟩, .bool false]) ∧ w' = w := by
  have HL := hid (dclen_calls w h)
  clear h
  by_cases h0 : i < 0
  · clear hi
    go_enter Tryz.func207, Tryz.ntmps207
    go_wp2_with fail
    go_ret2
    exact ⟨rfl, rfl⟩
  · have h1 : decide (i < 0) = false := decide_eq_false h0
    have h2 : decide ((l.length : Int) ≤ i) = true := decide_eq_true (by omega)
    clear hi h0
    go_enter Tryz.func207, Tryz.ntmps207
    go_wp2_with fail
    refine HL.out.mono ?_
    rintro e1 w1 ⟨rfl, rfl⟩
    go_wp2_with fail
    go_ret2
    exact ⟨rfl, rfl⟩
theorem key_some {S : Nat → Prop} {d n i : Nat} {l : List Ent} {x : Ent} (w : World) (h : DcS S d n l w) (hn : n ≤ 1000000) (hi : l[i]? = some x) :
    Calls Tryz.prog 207 #[.pointer (some ⟨d, 0, none⟩), .int .i64 (i : Int)] w fun e w' => e = .returned (.tuple #[.string x.1, .bool true]) ∧ Below w.heap.size w w' := by
  have HL := hid (dclen_calls w h)
  obtain ⟨p, v, m, L, h1, h2, rfl, h4, h5, h6⟩ := h
  have c0 : w.cell? ⟨d, 0, none⟩ = some (.pointer (some ⟨p, 0, none⟩)) := by rw [blk_cell h1]; rfl
  have HN := hid (nth_calls w h2 (by omega) hi)
  have hil : i < (live L).length := (List.getElem?_eq_some_iff.1 hi).1
  have q2 : decide (((live L).length : Int) ≤ (i : Int)) = false := decide_eq_false (by omega)
  clear h1 h2 hi
  go_enter Tryz.func207, Tryz.ntmps207
  go_wp2_with fail
  refine HL.out.mono ?_
  rintro e1 w1 ⟨rfl, rfl⟩
  go_wp2_with fail
  refine HN.out.mono ?_
  rintro e1 w2 ⟨rfl, b2⟩
  have HB := hid b2
  clear b2 HN
  go_wp2_with fail
  go_ret2
  exact ⟨rfl, HB.out⟩

/-- texts of one's own, from block lo on -/
def StrsOwn (lo : Nat) (v : Value) (l : List ByteArray) (w : World) : Prop := w.ownsRow 0 9 1 v l.length (l.map Value.string) ∧ ∀ g, v.ownBlock = some g → lo ≤ g
theorem strsOwn_on {lo : Nat} {v : Value} {l : List ByteArray} {a c : World} (h : StrsOwn lo v l a) (k : Below a.heap.size a c) : StrsOwn lo v l c :=
  ⟨row_keep h.1 (fun g hg => k.block g (by obtain ⟨cur, hc⟩ := row_lt h.1 hg; exact blk_lt hc)), h.2⟩
theorem strsOwn_keep {S : Nat → Prop} {lo : Nat} {v : Value} {l : List ByteArray} {a c : World} (h : StrsOwn lo v l a) (k : Keep S a c) (hS : ∀ g, v.ownBlock = some g → ¬ S g) : StrsOwn lo v l c :=
  ⟨row_keep h.1 (fun g hg => k.block g (by obtain ⟨cur, hc⟩ := row_lt h.1 hg; exact blk_lt hc) (hS g hg)), h.2⟩
/-- one text more -/
theorem strs_app {ops : Array Oper} {rest : List Oper} {o : Oper} {a : Act} {Q : Exit → Act → World → Prop} {w : World} (hgd : o.guard = none) (s x : Operand)
    (ho : o.op = .call { callee := .builtin .append, args := #[s, x], argTypes := #[56, 56] })
    (lo : Nat) (l : List ByteArray) (t : ByteArray) (v : Value) (hs : a.eval s = v) (hown : StrsOwn lo v l w)
    (nb : Nat) (hx : a.eval x = .slice (some ⟨nb, 0, none⟩) 1 1) (hnb : nb = w.heap.size) (hlen : l.length ≤ 1000000) (hlo : lo ≤ w.heap.size)
    (h : ∀ g cap w', StrsOwn lo (.slice (some ⟨g, 0, none⟩) (l.length + 1) cap) (l ++ [t]) w' → w.grownBy w' v.ownBlock → (v.ownBlock = some g ∨ w.heap.size ≤ g) → wpList Tryz.prog ops Q rest (a.put o.dst (.slice (some ⟨g, 0, none⟩) (l.length + 1) cap)) w') :
    wpList Tryz.prog ops Q (o :: rest) a (w.alloc (.cells #[.string t] 9)) := by
  subst hnb
  obtain ⟨i0, hi, hz0, hz1, hz2⟩ := infoS
  have A := (Below.refl w.heap.size w).alloc (Nat.le_refl _) (.cells #[.string t] 9)
  refine wpList_append_lies _ hgd s x 56 ho 0 9 i0 _ 1 16 underS hi hz0 hz1 hz2 rfl (by decide) v l.length _ hs (strsOwn_on hown A).1 ⟨w.heap.size, 0, none⟩ 1 1 [.string t] hx rfl (World.news_of_block (heap_alloc_new w (.cells #[.string t] 9))) ?_ (by decide) (by unfold maxLen; omega) (by omega) (Nat.zero_le _) (w.heap.size + 1) (by simp) ?_
  · intro u hu
    simp at hu
    subst hu; rfl
  · intro g cap w' hown' hgrow hat hlt
    refine h g cap w' ⟨by simpa using hown', fun k hk => ?_⟩ ?_ ?_
    · simp [Value.ownBlock] at hk
      subst hk
      rcases hat with h1 | h1
      · exact hown.2 _ h1
      · omega
    · refine ⟨hgrow.os.trans A.os, hgrow.tape.trans A.tape, hgrow.output.trans A.output, Nat.le_trans A.size hgrow.size, fun k hk hne => ?_⟩
      rw [hgrow.block k (by simp; omega) hne, A.block k hk]
    · rcases hat with h1 | h1
      · exact .inl h1
      · exact .inr (by omega)

end Go.Proofs.YtimhgbcanmgajaaGreat

namespace Go.Proofs.YtimhgbcanmgajaaGreat
set_option linter.unusedSimpArgs false
set_option maxRecDepth 100000
open Go.RowKit

theorem tof_has {S : Nat → Prop} {t i : Nat} {L : List ByteArray} (w : World) (h : NmS S t L w) (s : ByteArray) (hs : s.size ≤ maxLen) (hi : atT L s = some i) :
    Calls Tryz.prog 149 #[.pointer (some ⟨t, 0, none⟩), .string s] w fun e w' => e = .returned (.int .i64 ((i + 1 : Nat) : Int)) ∧ w' = w := by
  have H := hid h
  obtain ⟨p, m, v, h1, h2, _⟩ := h
  obtain ⟨c1, c2⟩ := h2.cells
  have c0 : w.cell? ⟨t, 0, none⟩ = some (.pointer (some ⟨p, 0, none⟩)) := by rw [blk_cell h1]; rfl
  have HM := hid h2.map
  have hF : numF L s = some ((i + 1 : Nat) : Int) := by unfold numF; rw [hi]; rfl
  clear h1 h2 hi
  go_enter Tryz.func149, Tryz.ntmps149
  go_wp2_with fail
  refine (tmade_calls _ H.out).mono ?_
  rintro e1 w1 ⟨rfl, rfl⟩
  go_wp2_with (first | (at_lookup; refine gm_look underNt rfl _ _ rfl m _ _ s rfl HM.out rfl hs ?_; rw [hF]) | fail)
  go_ret
  exact ⟨rfl, rfl⟩

/-- behind the append and the store -/
theorem TwAt.more {p m g cap : Nat} {v : Value} {L : List ByteArray} {s : ByteArray} {w w3 : World} (h : TwAt p m v L w) (hk : Keep (FtT p m v) w w3) (hb3 : Blk p 225 #[.map (some m), v] w3) (hm3 : w3.heap[m]? = w.heap[m]?)
    (hgp : g ≠ p ∧ g ≠ m) (hown : w3.ownsRow 0 9 1 (.slice (some ⟨g, 0, none⟩) (L.length + 1) cap) (L.length + 1) (L.map Value.string ++ [.string s])) (hat : v.ownBlock = some g ∨ w.heap.size ≤ g) :
    let W := w3.setCell ⟨p, 1, none⟩ (.slice (some ⟨g, 0, none⟩) (L.length + 1) cap)
    Blk p 225 #[.map (some m), .slice (some ⟨g, 0, none⟩) (L.length + 1) cap] W ∧ W.ownsRow 0 9 1 (.slice (some ⟨g, 0, none⟩) (L.length + 1) cap) (L.length + 1) (L.map Value.string ++ [.string s]) ∧ MapN m (numF L) L.length W ∧ Keep (FtT p m v) w W ∧
      ∀ b, FtT p m (.slice (some ⟨g, 0, none⟩) (L.length + 1) cap) b → FtT p m v b ∨ w.heap.size ≤ b := by
  intro W
  have K3 : Keep (fun b => b = p) w3 W := Keep.set (S := fun b => b = p) rfl w3 1 _
  have hm3' : m < w3.heap.size := Nat.lt_of_lt_of_le (h.lt (b := m) (.inr (.inl rfl))) hk.size
  refine ⟨blk_set hb3 1 _, ?_, ?_, hk.trans K3 (fun b _ e => .inl e), ?_⟩
  · exact row_keep hown (fun k hk => by
      simp [Value.ownBlock] at hk
      subst hk
      obtain ⟨cur, hc⟩ := row_lt hown (g := g) rfl
      exact K3.block g (blk_lt hc) hgp.1)
  · exact mapN_keep (mapN_keep h.map hm3) (K3.block m hm3' h.ne.1)
  · rintro b (rfl | rfl | hb)
    · exact .inl (.inl rfl)
    · exact .inl (.inr (.inl rfl))
    · simp [Value.ownBlock] at hb
      subst hb
      rcases hat with h1 | h1
      · exact .inl (.inr (.inr h1))
      · exact .inr (by omega)
/-- the block of the table itself -/
theorem TwAt.far {p m d : Nat} {v : Value} {L : List ByteArray} {cs : Array Value} {T : TypeId} {w : World} (h1 : Blk d T cs w) (h : TwAt p m v L w) (t1 : T ≠ 225) (t2 : T ≠ 9) : ¬ FtT p m v d := by
  have hd : w.heap[d]? = _ := h1
  rintro (e | e | e)
  · have hb : w.heap[p]? = _ := h.blk
    rw [← e, hd] at hb
    injection hb with hb; injection hb with _ hb
    exact t1 hb
  · obtain ⟨es, clock, hm⟩ := mapN_block h.map
    rw [← e, hd] at hm; cases hm
  · obtain ⟨cur, hc⟩ := row_lt h.row e
    have hb : w.heap[d]? = _ := hc
    rw [hd] at hb
    injection hb with hb; injection hb with _ hb
    exact t2 hb

/-- behind the map's put -/
theorem NmS.put {S : Nat → Prop} {t p m g cap : Nat} {v : Value} {L : List ByteArray} {s : ByteArray} {w w4 w5 : World} (h : TwAt p m v L w) (hi : atT L s = none) (h3 : S t) (h4 : ∀ b, FtT p m v b → S b)
    (bt : Blk t 227 #[.pointer (some ⟨p, 0, none⟩)] w4) (bp : Blk p 225 #[.map (some m), .slice (some ⟨g, 0, none⟩) (L.length + 1) cap] w4)
    (rw4 : w4.ownsRow 0 9 1 (.slice (some ⟨g, 0, none⟩) (L.length + 1) cap) (L.length + 1) (L.map Value.string ++ [.string s])) (k4 : Keep (FtT p m v) w w4)
    (hf : ∀ b, FtT p m (.slice (some ⟨g, 0, none⟩) (L.length + 1) cap) b → FtT p m v b ∨ w.heap.size ≤ b) (hfar : ¬ FtT p m v t) (hgp : g ≠ p ∧ g ≠ m)
    (hM : MapN m (putF (numF L) s ((L.length + 1 : Nat) : Int)) (if (numF L s).isSome then L.length else L.length + 1) w5) (k5 : Keep (fun b => b = m) w4 w5) :
    NmS (Up S w) t (L ++ [s]) w5 ∧ Keep S w w5 ∧ Blk t 227 #[.pointer (some ⟨p, 0, none⟩)] w5 ∧ Blk p 225 #[.map (some m), .slice (some ⟨g, 0, none⟩) (L.length + 1) cap] w5 := by
  have htm : t ≠ m := fun e => hfar (.inr (.inl e))
  have bt5 := blk_keep bt k5 htm
  have bp5 := blk_keep bp k5 (fun e => h.ne.1 e.symm)
  have hl : (L ++ [s]).length = L.length + 1 := by simp
  refine ⟨⟨p, m, _, bt5, ⟨bp5, ?_, ?_⟩, .inl h3, fun b hb => ?_⟩, (k4.mono (fun b _ hb => h4 b hb)).trans k5 (fun b _ e => by subst e; exact h4 _ (.inr (.inl rfl))), bt5, bp5⟩
  · rw [hl, List.map_append]
    exact row_keep rw4 (fun k hk => by
      simp [Value.ownBlock] at hk
      subst hk
      obtain ⟨cur, hc⟩ := row_lt rw4 (g := g) rfl
      exact k5.block g (blk_lt hc) hgp.2)
  · rw [numF_some, hi] at hM
    rw [hl]
    exact mapN_ext hM (numF_snoc hi)
  · rcases hf b hb with h | h
    · exact .inl (h4 b h)
    · exact .inr h

set_option maxHeartbeats 2000000 in
theorem tof_new {S : Nat → Prop} {t : Nat} {L : List ByteArray} (w : World) (h : NmS S t L w) (s : ByteArray) (hs : s.size ≤ maxLen) (hi : atT L s = none) (hl : L.length ≤ 1000000) :
    Calls Tryz.prog 149 #[.pointer (some ⟨t, 0, none⟩), .string s] w fun e w' => e = .returned (.int .i64 ((L.length + 1 : Nat) : Int)) ∧ NmS (Up S w) t (L ++ [s]) w' ∧ Keep S w w' := by
  have H := hid h
  obtain ⟨i0, hi0, hz0, hz1, hz2⟩ := infoTx
  obtain ⟨p, m, v, h1, h2, h3, h4⟩ := h
  obtain ⟨ao, cap, rfl⟩ := row_shape h2.row
  obtain ⟨d1, d2⟩ := h2.cells
  have d0 : w.cell? ⟨t, 0, none⟩ = some (.pointer (some ⟨p, 0, none⟩)) := by rw [blk_cell h1]; rfl
  have HM := hid h2.map
  have HT := hid h2
  have HB := hid h1
  have hF : numF L s = none := by unfold numF; rw [hi]; rfl
  have HI := hid hi
  have hp := h2.lt (b := p) (.inl rfl)
  have ht := blk_lt h1
  have hFar := hid (TwAt.far h1 h2 (by decide) (by decide))
  have htp : t ≠ p := fun e => hFar.out (.inl e)
  have A := ((Below.refl w.heap.size w).drew.alloc (Nat.le_refl _) (Obj.cells #[.string s] 9))
  have HA := hid A
  have RW := hid (row_keep (c := (w.drew.alloc (Obj.cells #[.string s] 9))) h2.row (fun g hg => A.block g (h2.lt (.inr (.inr hg)))))
  have NW := hid (World.news_of_block (w := (w.drew.alloc (Obj.cells #[.string s] 9))) (show (w.drew.alloc (Obj.cells #[.string s] 9)).heap[w.heap.size]? = _ from heap_alloc_new w.drew (Obj.cells #[.string s] 9)))
  clear h1 h2 hi A
  go_enter Tryz.func149, Tryz.ntmps149
  go_wp2_with fail
  refine (tmade_calls _ H.out).mono ?_
  rintro e1 w1 ⟨rfl, rfl⟩
  go_wp2_with (first | (at_lookup; refine gm_look underNt rfl _ _ rfl m _ _ s rfl HM.out rfl hs ?_; rw [hF]) | fail)
  refine wp_region_held_drew (S := fun a => a.cell? ⟨t, 0, none⟩ = some (.pointer (some ⟨p, 0, none⟩))) (by kernel_rfl) d0 (fun hHeld => ?_)
  refine tkk 0 ?_
  refine tkk 1 ?_
  refine tkk 2 ?_
  refine tkk 3 ?_
  refine tkk 4 ?_
  refine tkk 5 ?_
  refine tkk 6 ?_
  refine tkk 7 ?_
  refine tkk 8 ?_
  refine tkk 9 ?_
  refine tkk 11 ?_
  refine wpAnyH_ready (rs := [10, 12]) (by kernel_rfl) (by simp) ?_
  refine AllReadyH.cons rfl (fun K hK => ?_) (AllReadyH.cons rfl (fun K hK => ?_) AllReadyH.nil)
  go_simp
  refine hK.out _ _ d0 (fun _ => ?_)
  clear hK K
  refine rdy 12 (fun K hK => ?_)
  go_simp
  refine hK.out _ _ (by go_simp) (fun _ => ?_)
  clear hK K
  rotate_left 1
  go_simp
  refine hK.out _ _ (by go_simp) (fun _ => ?_)
  clear hK K
  refine rdy 10 (fun K hK => ?_)
  go_simp
  refine hK.out _ _ (by go_simp) (fun _ => ?_)
  clear hK K
  rotate_left 1
  all_goals
    refine rdy 13 (fun K hK => ?_)
    refine step_append_lies _ rfl _ _ 56 rfl 0 9 i0 _ 1 16 underTx hi0 hz0 hz1 hz2 rfl (by decide) (.slice ao L.length cap) L.length (L.map Value.string) rfl RW.out ⟨w1.heap.size, 0, none⟩ 1 1 [.string s] rfl rfl NW.out (by intro u hu; simp at hu; subst hu; rfl) (by decide) (by unfold maxLen; omega) (by omega) (Nat.zero_le _) (w1.heap.size + 1) (by simp) ?_
    intro g cp w3 hown hgrow hat hlt
    have k3 : Keep (FtT p m (.slice ao L.length cap)) w1 w3 := (Keep.of HA.out).trans (Keep.grown hgrow (fun k hk => .inr (.inr hk))) (fun _ _ e => e)
    have fr : ∀ b, b < w1.heap.size → (Value.slice ao L.length cap).ownBlock ≠ some b → w3.heap[b]? = w1.heap[b]? := fun b hb hne =>
      ((Keep.of (S := fun c => (Value.slice ao L.length cap).ownBlock = some c) HA.out).trans (Keep.grown hgrow (fun k hk => hk)) (fun _ _ e => e)).block b hb hne
    have hat2 : (Value.slice ao L.length cap).ownBlock = some g ∨ w1.heap.size ≤ g := by
      rcases hat with h | h
      · exact .inl h
      · exact .inr (by have := HA.out.size; omega)
    have hb3 : Blk p 225 #[.map (some m), .slice ao L.length cap] w3 := (fr p hp (fun e => (HT.out.ne.2 p e).1 rfl)).trans HT.out.blk
    have hgp : g ≠ p ∧ g ≠ m := by
      rcases hat2 with h | h
      · exact HT.out.ne.2 g h
      · have := HT.out.lt (b := m) (.inr (.inl rfl))
        omega
    have bt3 : Blk t 227 #[.pointer (some ⟨p, 0, none⟩)] w3 := blk_keep HB.out k3 hFar.out
    have W := hid (HT.out.more (s := s) k3 hb3 (fr m (HT.out.lt (.inr (.inl rfl))) (fun e => (HT.out.ne.2 m e).2 rfl)) hgp hown hat2)
    have BT := hid bt3
    have q0 : w3.cell? ⟨t, 0, none⟩ = some (.pointer (some ⟨p, 0, none⟩)) := by rw [blk_cell bt3]; rfl
    have q1 : w3.cell? ⟨p, 1, none⟩ = some (.slice ao L.length cap) := by rw [blk_cell hb3]; rfl
    have q2 : w3.cell? ⟨p, 0, none⟩ = some (.map (some m)) := by rw [blk_cell hb3]; rfl
    have q3 : w3.frozen? ⟨p, 1, none⟩ = false := blk_free hb3 1
    refine hK.out _ _ q0 (fun _ => ?_)
    clear hK K hown hgrow k3 fr hb3 bt3 hat hat2
    simp only [Act.put, List.setIfInBounds_toArray, List.set_cons_zero, List.set_cons_succ, List.getElem_toArray, List.getElem_cons_succ, List.getElem_cons_zero]
    refine tkk 14 ?_
    refine tkk 15 ?_
    refine rdy 16 (fun K hK => ?_)
    go_simp
    obtain ⟨x1, x2, x3, x4, x5⟩ := W.out
    have bt4 : Blk t 227 #[.pointer (some ⟨p, 0, none⟩)] (w3.setCell ⟨p, 1, none⟩ (.slice (some ⟨g, 0, none⟩) (L.length + 1) cp)) := blk_keep BT.out (Keep.set (S := fun b => b = p) rfl w3 1 _) htp
    have X1 := hid x1
    have X2 := hid x2
    have X3 := hid x3
    have X4 := hid x4
    have X5 := hid x5
    have X6 := hid bt4
    have r0 : (w3.setCell ⟨p, 1, none⟩ (.slice (some ⟨g, 0, none⟩) (L.length + 1) cp)).cell? ⟨t, 0, none⟩ = some (.pointer (some ⟨p, 0, none⟩)) := by rw [blk_cell bt4]; rfl
    have r1 : (w3.setCell ⟨p, 1, none⟩ (.slice (some ⟨g, 0, none⟩) (L.length + 1) cp)).cell? ⟨p, 1, none⟩ = some (.slice (some ⟨g, 0, none⟩) (L.length + 1) cp) := by rw [blk_cell x1]; rfl
    have r2 : (w3.setCell ⟨p, 1, none⟩ (.slice (some ⟨g, 0, none⟩) (L.length + 1) cp)).cell? ⟨p, 0, none⟩ = some (.map (some m)) := by rw [blk_cell x1]; rfl
    clear x1 x2 x3 x4 x5 bt4 W BT q0 q1 q2 q3
    refine hK.out _ _ r0 (fun _ => ?_)
    clear hK K hHeld
    refine wpAnyH_done (by kernel_rfl) ?_ _
    generalize w3.setCell ⟨p, 1, none⟩ (.slice (some ⟨g, 0, none⟩) (L.length + 1) cp) = w4 at *
    go_wp2_with fail
    refine wp_region_held_drew (S := fun a => a.cell? ⟨t, 0, none⟩ = some (.pointer (some ⟨p, 0, none⟩)) ∧ a.cell? ⟨p, 0, none⟩ = some (.map (some m)) ∧ a.cell? ⟨p, 1, none⟩ = some (.slice (some ⟨g, 0, none⟩) (L.length + 1) cp)) (by kernel_rfl) ⟨r0, r2, r1⟩ (fun hHeld => ?_)
    refine tkk 0 ?_
    refine tkk 1 ?_
    refine tkk 2 ?_
    refine tkk 3 ?_
    refine tkk 4 ?_
    refine tkk 5 ?_
    refine tkk 6 ?_
    refine tkk 7 ?_
    refine tkk 8 ?_
    refine tkk 9 ?_
    refine tkk 10 ?_
    refine tkk 11 ?_
    refine tkk 12 ?_
    refine tkk 13 ?_
    refine tkk 14 ?_
    refine tkk 15 ?_
    refine rdy 16 (fun K hK => ?_)
    refine gm_step underNt rfl _ _ _ rfl m _ _ s ((L.length + 1 : Nat) : Int) rfl (mapN_keep X3.out rfl) (by unfold maxLen; omega) rfl hs rfl (WalkArith.wf_i64 (by omega)) ?_
    intro w5 hM5 g5
    have k5 : Keep (fun b => b = m) w4 w5 := (Keep.drew _ w4).trans (Keep.grown g5 (fun k hk => (Option.some.inj hk).symm)) (fun _ _ e => e)
    have RR := hid (NmS.put HT.out HI.out h3 h4 X6.out X1.out X2.out X4.out X5.out hFar.out hgp hM5 k5)
    have y0 : w5.cell? ⟨t, 0, none⟩ = some (.pointer (some ⟨p, 0, none⟩)) := by rw [blk_cell RR.out.2.2.1]; rfl
    have y1 : w5.cell? ⟨p, 0, none⟩ = some (.map (some m)) := by rw [blk_cell RR.out.2.2.2]; rfl
    have y2 : w5.cell? ⟨p, 1, none⟩ = some (.slice (some ⟨g, 0, none⟩) (L.length + 1) cp) := by rw [blk_cell RR.out.2.2.2]; rfl
    refine hK.out _ _ ⟨y0, y1, y2⟩ (fun _ => ?_)
    clear hK K hHeld hM5 g5 k5 X1 X2 X3 X4 X5 X6
    refine wpAnyH_done (by kernel_rfl) ?_ _
    go_wp2_with fail
    go_ret
    exact ⟨by simp, RR.out.1, RR.out.2.1⟩
theorem tof_calls {S : Nat → Prop} {t : Nat} {L : List ByteArray} (w : World) (h : NmS S t L w) (s : ByteArray) (hs : s.size ≤ maxLen) (hl : L.length ≤ 1000000) :
    Calls Tryz.prog 149 #[.pointer (some ⟨t, 0, none⟩), .string s] w fun e w' => e = .returned (.int .i64 (numT L s : Int)) ∧ NmS (Up S w) t (ofT L s) w' ∧ Keep S w w' := by
  cases hi : atT L s with
  | some i =>
    rw [show numT L s = i + 1 from by unfold numT; rw [hi], show ofT L s = L from by unfold ofT; rw [hi]; rfl]
    exact (tof_has w h s hs hi).mono fun e w' ⟨h1, h2⟩ => by subst h2; exact ⟨h1, h.mono (fun b _ hb => .inl hb), Keep.refl _ _⟩
  | none =>
    rw [show numT L s = L.length + 1 from by unfold numT; rw [hi], show ofT L s = L ++ [s] from by unfold ofT; rw [hi]; rfl]
    exact tof_new w h s hs hi hl

end Go.Proofs.YtimhgbcanmgajaaGreat
