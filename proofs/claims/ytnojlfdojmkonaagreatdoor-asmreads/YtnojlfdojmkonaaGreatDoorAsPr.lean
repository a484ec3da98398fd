/- What the program's Print answers: the text of a program that may be. -/
import Derived.Test.YtnojlfdojmkonaaGreatDoorAsP
namespace Go.Proofs.YtnojlfdojmkonaaGreatDoor
set_option linter.unusedSimpArgs false
set_option maxRecDepth 100000
open Go.RowKit

theorem flat_len {α : Type} {f : α → List UInt8} {K : Nat} : ∀ {l : List α}, (∀ x ∈ l, (f x).length ≤ K) → (l.flatMap f).length ≤ l.length * K
  | [], _ => by simp
  | x :: r, h => by
    have h1 := h x (by simp)
    have h2 := flat_len (l := r) (fun y hy => h y (by simp [hy]))
    rw [List.flatMap_cons, List.length_append, List.length_cons, Nat.add_mul]
    omega
theorem lnP_len (w : List UInt8) (ns : List Int) : (lnP w ns).length ≤ w.length + ns.length * 22 := by
  unfold lnP
  rw [List.length_append]
  have := flat_len (f := fun n => 32 :: digs n) (K := 22) (l := ns) (fun n _ => by
    have := digs_length n
    simp only [List.length_cons]; omega)
  omega
theorem opW_len (o : Int) : (opW o).length ≤ 9 := by
  unfold opW
  split
  · rename_i h
    have : ∀ i : Fin 32, (asmW.getD i.val []).length ≤ 9 := by decide
    exact this ⟨(o - 1).toNat, by omega⟩
  · simp
theorem insP_len (x : In) : (insP x).length ≤ 53 := by
  have h1 := lnP_len (opW x.1) ([x.2.1, x.2.2].take (prtN x.1))
  have h2 := opW_len x.1
  rw [ins_few x] at h1
  have h3 : prtN x.1 ≤ 2 := by rcases prt_cases x.1 with h | h | h <;> omega
  unfold insP
  omega
theorem checkP_ok {P : Pg} (h : checkP P) : okPg P ∧ P.codes ≠ [] ∧ (∀ s ∈ P.pool, s.size ≤ 256) ∧ P.pool.length ≤ 120 ∧ P.codes.length ≤ 32 ∧ ∀ c ∈ P.codes, c.ins.length ≤ 4000 := by
  obtain ⟨hs, hc⟩ := h
  unfold sizesB at hs
  simp only [Bool.and_eq_true, decide_eq_true_eq] at hs
  obtain ⟨h1, h2, h3, h4, h5⟩ := hs
  have h1 := inZ_iff.1 h1
  have h2 := inZ_iff.1 h2
  refine ⟨⟨⟨by omega, by omega⟩, fun c hm => okCd_of h1.2 (by omega) (by omega) (hc c hm).1⟩, ?_, ?_, h3, by omega, fun c hm => ?_⟩
  · intro e
    rw [e] at h2
    simp at h2
  · intro s hm
    have := List.all_eq_true.1 h4 s hm
    simpa using this
  · have := (hc c hm).1
    unfold rightC at this
    simp only [Bool.and_eq_true] at this
    have := inZ_iff.1 this.2.2.2.2.1
    omega
theorem quoted_len (l : List UInt8) : (quoted l).length ≤ 2 + 4 * l.length := by
  have := qbody_length l
  unfold quoted
  simp
  omega
/-- such a text is not long -/
theorem text_len {P : Pg} (h : checkP P) : (txL (pgLP P)).length ≤ 10000000 := by
  obtain ⟨_, _, h3, h4, h5, h6⟩ := checkP_ok h
  rw [pgL_is]
  unfold preC preP
  rw [List.take_length, List.take_length]
  simp only [List.length_append, List.length_singleton]
  have a1 := lnP_len gloW [P.g]
  have a2 : (txL (P.pool.map polL)).length ≤ (P.pool.map polL).length * 1100 := flat_len (fun l hl => by
    obtain ⟨s, hs, rfl⟩ := List.mem_map.1 hl
    have := h3 s hs
    have hq := quoted_len s.data.toList
    have hz : s.size = s.data.toList.length := Lib.size_eq s
    unfold polL
    simp [polW]
    simp at hq hz
    omega)
  have a3 : (txL (P.codes.flatMap cdL)).length ≤ P.codes.length * 217000 := by
    have e : txL (P.codes.flatMap cdL) = P.codes.flatMap fun c => txL (cdL c) := by simp [txL, List.flatMap_assoc]
    rw [e]
    refine flat_len fun c hc => ?_
    have b1 := h6 c hc
    have b2 := lnP_len codW [c.p, c.l, c.s, c.d]
    have b3 : (txL (c.ins.map insP)).length ≤ (c.ins.map insP).length * 54 := flat_len (fun l hl => by
      obtain ⟨x, _, rfl⟩ := List.mem_map.1 hl
      have := insP_len x
      simp
      omega)
    have e2 : txL (cdL c) = (lnP codW [c.p, c.l, c.s, c.d] ++ [10]) ++ txL (c.ins.map insP) := by
      unfold cdL
      show txL ([lnP codW [c.p, c.l, c.s, c.d]] ++ c.ins.map insP) = _
      rw [tx_app, tx_one]
    rw [e2]
    simp only [List.length_append, List.length_singleton, List.length_map] at *
    have : codW.length = 4 := rfl
    simp only [List.length_cons, List.length_nil] at b2
    omega
  have : gloW.length = 7 := rfl
  simp only [List.length_cons, List.length_nil, List.length_map] at *
  omega
/-- nor that of few instructions -/
theorem text_few {P : Pg} (h : checkP P) (h6 : ∀ c ∈ P.codes, c.ins.length ≤ 400) : (txL (pgLP P)).length ≤ 1000000 := by
  obtain ⟨_, _, h3, h4, h5, _⟩ := checkP_ok h
  rw [pgL_is]
  unfold preC preP
  rw [List.take_length, List.take_length]
  simp only [List.length_append, List.length_singleton]
  have a1 := lnP_len gloW [P.g]
  have a2 : (txL (P.pool.map polL)).length ≤ (P.pool.map polL).length * 1100 := flat_len (fun l hl => by
    obtain ⟨s, hs, rfl⟩ := List.mem_map.1 hl
    have := h3 s hs
    have hq := quoted_len s.data.toList
    have hz : s.size = s.data.toList.length := Lib.size_eq s
    unfold polL
    simp [polW]
    simp at hq hz
    omega)
  have a3 : (txL (P.codes.flatMap cdL)).length ≤ P.codes.length * 22000 := by
    have e : txL (P.codes.flatMap cdL) = P.codes.flatMap fun c => txL (cdL c) := by simp [txL, List.flatMap_assoc]
    rw [e]
    refine flat_len fun c hc => ?_
    have b1 := h6 c hc
    have b2 := lnP_len codW [c.p, c.l, c.s, c.d]
    have b3 : (txL (c.ins.map insP)).length ≤ (c.ins.map insP).length * 54 := flat_len (fun l hl => by
      obtain ⟨x, _, rfl⟩ := List.mem_map.1 hl
      have := insP_len x
      simp
      omega)
    have e2 : txL (cdL c) = (lnP codW [c.p, c.l, c.s, c.d] ++ [10]) ++ txL (c.ins.map insP) := by
      unfold cdL
      show txL ([lnP codW [c.p, c.l, c.s, c.d]] ++ c.ins.map insP) = _
      rw [tx_app, tx_one]
    rw [e2]
    simp only [List.length_append, List.length_singleton, List.length_map] at *
    have : codW.length = 4 := rfl
    simp only [List.length_cons, List.length_nil] at b2
    omega
  have : gloW.length = 7 := rfl
  simp only [List.length_cons, List.length_nil, List.length_map] at *
  omega
/-- what Print tells -/
def PrOut (P : Pg) (e : Ending) : Prop := ∃ r s, e = .returned (.tuple #[.string s, .int .i64 r]) ∧ ((r = 0 ∧ checkP P ∧ s = ⟨(txL (pgLP P)).toArray⟩) ∨ (r = 16 ∧ ¬ checkP P ∧ s = ⟨#[]⟩))
theorem PgIn.mono {B C : Nat} {w : World} {P : Pg} {pv cv : Value} (h : PgIn B w P pv cv) (hBC : B ≤ C) : PgIn C w P pv cv := ⟨plIn_mono h.pool hBC, cdsIn_mono h.codes hBC, h.few, h.ins, h.strs⟩
set_option maxHeartbeats 3200000 in
theorem aprint_calls (B : Nat) (P : Pg) (pv cv : Value) (w : World) (hB : B ≤ w.heap.size) (hP : Hid (PgIn B w P pv cv)) :
    Calls Tryz.prog 9 #[pgV P pv cv] w fun e w' => PrOut P e ∧ Below w.heap.size w w' := by
  have CK := hid (fun W (q : Below B w W) => ccheck_calls B P pv cv W (Nat.le_trans hB q.size) (hP.out.on q))
  have PR := hid (fun b W (q : Below B w W) (hb : B ≤ b) (h : Hid (Aw b b [] W)) (hc : checkP P) => aprogram_calls b P pv cv W h (hid ((hP.out.on q).mono hb)) (hid (checkP_ok hc).1) (hid (fun s hs => Nat.le_trans ((checkP_ok hc).2.2.1 s hs) (by decide))) (Nat.le_trans (text_len hc) (by decide)))
  have OUT := hid (show ∀ r s, ((r = 0 ∧ checkP P ∧ s = ⟨(txL (pgLP P)).toArray⟩) ∨ (r = 16 ∧ ¬ checkP P ∧ s = ⟨#[]⟩)) → PrOut P (.returned (.tuple #[.string s, .int .i64 r])) from fun r s h => ⟨r, s, rfl, h⟩)
  obtain ⟨pa, pc, hpv⟩ := plIn_shape hP.out.pool
  obtain ⟨ca, cc, hcv⟩ := cdsIn_shape hP.out.codes
  clear hP
  generalize hCP : checkP P = CP at *
  generalize hT : txL (pgLP P) = T at *
  clear hCP hT
  obtain ⟨g, ss, cs⟩ := P
  simp only [pgV] at *
  subst hpv hcv
  have AL := hid (box_below w (.cells #[.int .i64 g, .slice pa ss.length pc, .slice ca cs.length cc] 25))
  have BL := hid (blk_new w 25 #[.int .i64 g, .slice pa ss.length pc, .slice ca cs.length cc])
  have hsz1 := hid (show w.heap.size + 1 ≤ (w.alloc (.cells #[.int .i64 g, .slice pa ss.length pc, .slice ca cs.length cc] 25)).heap.size by simp)
  go_enter Tryz.func9, Tryz.ntmps9
  go_wp2_with fail
  generalize hW1 : w.alloc (.cells #[.int .i64 g, .slice pa ss.length pc, .slice ca cs.length cc] 25) = w1 at *
  have CELLS := hid (fun (W : World) (q : Below w1.heap.size w1 W) => (show W.cell? ⟨w.heap.size, 0, none⟩ = some (.int .i64 g) ∧ W.cell? ⟨w.heap.size, 1, none⟩ = some (.slice pa ss.length pc) ∧ W.cell? ⟨w.heap.size, 2, none⟩ = some (.slice ca cs.length cc) from
    have hh := blk_on BL.out q
    ⟨blk_cellZ hh 0 rfl, blk_cellZ hh 1 rfl, blk_cellZ hh 2 rfl⟩))
  clear hW1
  refine (CK.out w1 (AL.out.mono hB)).mono ?_
  rintro e w2 ⟨⟨r, rfl, hr⟩, b2⟩
  have L2 := hid (AL.out.trans (b2.mono AL.out.size))
  have R := hid hr
  have Q2 := hid b2
  clear hr b2
  by_cases h0 : r = 0
  · subst h0
    have hc : CP := by
      rcases R.out with ⟨_, h⟩ | ⟨h, _⟩
      · exact h
      · exact absurd h (by decide)
    have HC := hid hc
    obtain ⟨p0, p1, p2⟩ := CELLS.out w2 Q2.out
    have AL2 := hid (box_below w2 (.cells #[.pointer none, .slice none 0 0] 52))
    have A2 := hid (show Aw w2.heap.size w2.heap.size [] (w2.alloc (.cells #[.pointer none, .slice none 0 0] 52)) from ⟨has_new 52 [] w2 _ rfl, by simp⟩)
    have HB2 := hid (show B ≤ w2.heap.size from Nat.le_trans hB L2.out.size)
    clear hc R
    have hlt : w.heap.size < w2.heap.size := Nat.lt_of_lt_of_le hsz1.out Q2.out.size
    have hne : ¬ w.heap.size = w2.heap.size := by omega
    have hne2 : ¬ w2.heap.size = w.heap.size := by omega
    go_wp2_with fail
    generalize hW2 : w2.alloc (.cells #[.pointer none, .slice none 0 0] 52) = w3 at *
    clear p0 p1 p2 hW2
    have L3 := hid (L2.out.trans (AL2.out.mono L2.out.size))
    refine (PR.out w2.heap.size w3 (L3.out.mono hB) HB2.out A2 HC.out).mono ?_
    rintro e w4 ⟨rfl, a4, n4⟩
    have A4 := hid a4
    have N4 := hid n4
    clear a4 n4
    go_wp2_with fail
    refine (string_calls _ _ _ _ _ _ A4.out.1).mono ?_
    rintro e w5 ⟨rfl, b5, -⟩
    have L5 := hid (L3.out.trans ((N4.out.below.trans b5).mono L2.out.size))
    clear b5
    go_wp2_with fail
    go_ret2
    exact ⟨OUT.out _ _ (.inl ⟨rfl, HC.out, rfl⟩), L5.out⟩
  · have hc : ¬ CP ∧ r = 16 := by
      rcases R.out with ⟨h, _⟩ | ⟨h, h2⟩
      · exact absurd h h0
      · exact ⟨h2, h⟩
    obtain ⟨hc, rfl⟩ := hc
    go_wp2_with fail
    go_ret2
    exact ⟨OUT.out _ _ (.inr ⟨rfl, hc, rfl⟩), L2.out⟩

end Go.Proofs.YtnojlfdojmkonaaGreatDoor
